/-
  DERIVED. GIVEN WITH THE SEED: THE CARDS: each row of YtcmmoinkhodjfaaDoorRows.lean that lists a variable, with what it lists TIED to the program's text (the seventh form; the later family's looks); each row that meets fmt, with fmt's text TOLD by the authors' own Lean function (tested against real Go, not proved from fmt's source: count such statements apart). THE CARD IS WHAT COUNTS. Prove the row's statement (the work); the ties are given (YtcmmoinkhodjfaaDoorTie.lean); close each card by the builder's one call (the guide's Derived/Test/ToyasCard.lean, 'card_holds'). Laid BY PROGRAM, IN A SANDBOX (cutbox-door.mjs). By AI agents, Wed Nov 11 2026. No macro, syntax, notation, axiom, sorry.
-/
import Derived.Test.YtcmmoinkhodjfaaDoorRows
import GoSem.ClaimSeven
namespace Go.Proofs.YtcmmoinkhodjfaaDoor
namespace Rows

/-- THE TIED CARD OF 'solspacelaw.ProofForms'. -/
def proofFormsCard : Claim7 := { stood := { row := proofFormsRow, standIns := [], harness := (true, "74756f5da4520abf472bbef5a7795207cb3627368a3ebaec8fa3e657f9d08fb7"), looks := true }, kinds := [], alts := [], laidByText := true, laidKinds := [.handle], laidTests := true, laidLooks := .later }
def ProofFormsCardSaid : Prop := Claim7.holds Tryd.pinned (.plain (OpenSpec.ofChange proofFormsSpec)) proofFormsCard

/-- THE TIED CARD OF 'solspacelaw.ProofFollows'. -/
def proofFollowsCard : Claim7 := { stood := { row := proofFollowsRow, standIns := [], harness := (true, "74756f5da4520abf472bbef5a7795207cb3627368a3ebaec8fa3e657f9d08fb7"), looks := true }, kinds := [], alts := [], laidByText := true, laidKinds := [.handle, .data], laidTests := true, laidLooks := .later }
def ProofFollowsCardSaid : Prop := Claim7.holds Tryd.pinned (.plain (OpenSpec.ofChange proofFollowsSpec)) proofFollowsCard

/-- THE TIED CARD OF 'solspacelaw.ProofShows'. -/
def proofShowsCard : Claim7 := { stood := { row := proofShowsRow, standIns := [], harness := (true, "74756f5da4520abf472bbef5a7795207cb3627368a3ebaec8fa3e657f9d08fb7"), looks := true }, kinds := [], alts := [], laidByText := true, laidKinds := [.handle, .data], laidTests := true, laidLooks := .later }
def ProofShowsCardSaid : Prop := Claim7.holds Tryd.pinned (.plain (OpenSpec.ofChange proofShowsSpec)) proofShowsCard

/-- THE TIED CARD OF 'solspacelaw.ProofEliminates'. -/
def proofEliminatesCard : Claim7 := { stood := { row := proofEliminatesRow, standIns := [], harness := (true, "74756f5da4520abf472bbef5a7795207cb3627368a3ebaec8fa3e657f9d08fb7"), looks := true }, kinds := [], alts := [], laidByText := true, laidKinds := [.data, .data, .data, .handle, .data], laidTests := true, laidLooks := .later }
def ProofEliminatesCardSaid : Prop := Claim7.holds Tryd.pinned (.plain (OpenSpec.ofChange proofEliminatesSpec)) proofEliminatesCard

/-- THE SECOND FORM's CARD OF 'solspacelaw.ProofForms'. -/
def proofFormsUptoCard : Claim7 := { stood := { row := proofFormsUptoRow, standIns := [], harness := (true, "74756f5da4520abf472bbef5a7795207cb3627368a3ebaec8fa3e657f9d08fb7"), looks := true }, kinds := [], alts := [], laidByText := true, laidKinds := [.handle], laidTests := true, laidLooks := .later }
def ProofFormsUptoCardSaid : Prop := Claim7.holds Tryd.pinned (.plain (OpenSpec.upto proofFormsSpec)) proofFormsUptoCard

/-- THE SECOND FORM's CARD OF 'solspacelaw.ProofFollows'. -/
def proofFollowsUptoCard : Claim7 := { stood := { row := proofFollowsUptoRow, standIns := [], harness := (true, "74756f5da4520abf472bbef5a7795207cb3627368a3ebaec8fa3e657f9d08fb7"), looks := true }, kinds := [], alts := [], laidByText := true, laidKinds := [.handle, .data], laidTests := true, laidLooks := .later }
def ProofFollowsUptoCardSaid : Prop := Claim7.holds Tryd.pinned (.plain (OpenSpec.upto proofFollowsSpec)) proofFollowsUptoCard

/-- THE SECOND FORM's CARD OF 'solspacelaw.ProofShows'. -/
def proofShowsUptoCard : Claim7 := { stood := { row := proofShowsUptoRow, standIns := [], harness := (true, "74756f5da4520abf472bbef5a7795207cb3627368a3ebaec8fa3e657f9d08fb7"), looks := true }, kinds := [], alts := [], laidByText := true, laidKinds := [.handle, .data], laidTests := true, laidLooks := .later }
def ProofShowsUptoCardSaid : Prop := Claim7.holds Tryd.pinned (.plain (OpenSpec.upto proofShowsSpec)) proofShowsUptoCard

/-- THE SECOND FORM's CARD OF 'solspacelaw.ProofEliminates'. -/
def proofEliminatesUptoCard : Claim7 := { stood := { row := proofEliminatesUptoRow, standIns := [], harness := (true, "74756f5da4520abf472bbef5a7795207cb3627368a3ebaec8fa3e657f9d08fb7"), looks := true }, kinds := [], alts := [], laidByText := true, laidKinds := [.data, .data, .data, .handle, .data], laidTests := true, laidLooks := .later }
def ProofEliminatesUptoCardSaid : Prop := Claim7.holds Tryd.pinned (.plain (OpenSpec.upto proofEliminatesSpec)) proofEliminatesUptoCard
end Rows
end Go.Proofs.YtcmmoinkhodjfaaDoor
