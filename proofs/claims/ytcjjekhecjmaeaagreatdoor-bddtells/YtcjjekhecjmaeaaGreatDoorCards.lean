/-
  DERIVED. GIVEN WITH THE SEED: THE CARDS: each row of YtcjjekhecjmaeaaGreatDoorRows.lean that lists a variable, with what it lists TIED to the program's text (the seventh form; the later family's looks); each row that meets fmt, with fmt's text TOLD by the authors' own Lean function (tested against real Go, not proved from fmt's source: count such statements apart). THE CARD IS WHAT COUNTS. Prove the row's statement (the work); the ties are given (YtcjjekhecjmaeaaGreatDoorTie.lean); close each card by the builder's one call (the guide's Derived/Test/ToyasCard.lean, 'card_holds'). Laid BY PROGRAM, IN A SANDBOX (cutbox-door.mjs). By AI agents, Wed Nov 11 2026. No macro, syntax, notation, axiom, sorry.
-/
import Derived.Test.YtcjjekhecjmaeaaGreatDoorRows
import GoSem.ClaimSeven
namespace Go.Proofs.YtcjjekhecjmaeaaGreatDoor
namespace Rows

/-- THE TIED CARD OF 'solspacelaw.BddTells'. -/
def bddTellsCard : Claim7 := { stood := { row := bddTellsRow, standIns := [], harness := (true, "ae9433b6fbd0317327b8b3dabbc5b612e82835f1f7865dabb8435171b2a8850e"), looks := true }, kinds := [], alts := [], laidByText := true, laidKinds := [.data, .data, .data], laidTests := true, laidLooks := .later }
def BddTellsCardSaid : Prop := Claim7.holds Tryz.pinned (.plain (OpenSpec.ofChange bddTellsSpec)) bddTellsCard

/-- THE TIED CARD OF 'solspacelaw.ImageSaves'. -/
def imageSavesCard : Claim7 := { stood := { row := imageSavesRow, standIns := [], harness := (true, "ae9433b6fbd0317327b8b3dabbc5b612e82835f1f7865dabb8435171b2a8850e"), looks := true }, kinds := [], alts := [], laidByText := true, laidKinds := [.data, .data, .data, .handle], laidTests := true, laidLooks := .later }
def ImageSavesCardSaid : Prop := Claim7.holds Tryz.pinned (.plain (OpenSpec.ofChange imageSavesSpec)) imageSavesCard

/-- THE TIED CARD OF 'solspacelaw.ImageLoads'. -/
def imageLoadsCard : Claim7 := { stood := { row := imageLoadsRow, standIns := [], harness := (true, "ae9433b6fbd0317327b8b3dabbc5b612e82835f1f7865dabb8435171b2a8850e"), looks := true }, kinds := [], alts := [], laidByText := true, laidKinds := [.data, .data, .data, .data, .handle, .pinned], laidTests := true, laidLooks := .later }
def ImageLoadsCardSaid : Prop := Claim7.holds Tryz.pinned (.plain (OpenSpec.ofChange imageLoadsSpec)) imageLoadsCard

/-- THE TIED CARD OF 'solspacekeep.ImageBack'. -/
def imageBackCard : Claim7 := { stood := { row := imageBackRow, standIns := [], harness := (true, "ae9433b6fbd0317327b8b3dabbc5b612e82835f1f7865dabb8435171b2a8850e"), looks := true }, kinds := [], alts := [], laidByText := true, laidKinds := [.data, .data, .data, .data, .pinned], laidTests := true, laidLooks := .later }
def ImageBackCardSaid : Prop := Claim7.holds Tryz.pinned (.plain (OpenSpec.ofChange imageBackSpec)) imageBackCard

/-- THE TIED CARD OF 'solspacekeep.ImageBit'. -/
def imageBitCard : Claim7 := { stood := { row := imageBitRow, standIns := [], harness := (true, "ae9433b6fbd0317327b8b3dabbc5b612e82835f1f7865dabb8435171b2a8850e"), looks := true }, kinds := [], alts := [], laidByText := true, laidKinds := [.data, .data, .data, .data, .pinned], laidTests := true, laidLooks := .later }
def ImageBitCardSaid : Prop := Claim7.holds Tryz.pinned (.plain (OpenSpec.ofChange imageBitSpec)) imageBitCard

/-- THE SECOND FORM's CARD OF 'solspacelaw.BddTells'. -/
def bddTellsUptoCard : Claim7 := { stood := { row := bddTellsUptoRow, standIns := [], harness := (true, "ae9433b6fbd0317327b8b3dabbc5b612e82835f1f7865dabb8435171b2a8850e"), looks := true }, kinds := [], alts := [], laidByText := true, laidKinds := [.data, .data, .data], laidTests := true, laidLooks := .later }
def BddTellsUptoCardSaid : Prop := Claim7.holds Tryz.pinned (.plain (OpenSpec.upto bddTellsSpec)) bddTellsUptoCard

/-- THE SECOND FORM's CARD OF 'solspacelaw.ImageSaves'. -/
def imageSavesUptoCard : Claim7 := { stood := { row := imageSavesUptoRow, standIns := [], harness := (true, "ae9433b6fbd0317327b8b3dabbc5b612e82835f1f7865dabb8435171b2a8850e"), looks := true }, kinds := [], alts := [], laidByText := true, laidKinds := [.data, .data, .data, .handle], laidTests := true, laidLooks := .later }
def ImageSavesUptoCardSaid : Prop := Claim7.holds Tryz.pinned (.plain (OpenSpec.upto imageSavesSpec)) imageSavesUptoCard

/-- THE SECOND FORM's CARD OF 'solspacelaw.ImageLoads'. -/
def imageLoadsUptoCard : Claim7 := { stood := { row := imageLoadsUptoRow, standIns := [], harness := (true, "ae9433b6fbd0317327b8b3dabbc5b612e82835f1f7865dabb8435171b2a8850e"), looks := true }, kinds := [], alts := [], laidByText := true, laidKinds := [.data, .data, .data, .data, .handle, .pinned], laidTests := true, laidLooks := .later }
def ImageLoadsUptoCardSaid : Prop := Claim7.holds Tryz.pinned (.plain (OpenSpec.upto imageLoadsSpec)) imageLoadsUptoCard

/-- THE SECOND FORM's CARD OF 'solspacekeep.ImageBack'. -/
def imageBackUptoCard : Claim7 := { stood := { row := imageBackUptoRow, standIns := [], harness := (true, "ae9433b6fbd0317327b8b3dabbc5b612e82835f1f7865dabb8435171b2a8850e"), looks := true }, kinds := [], alts := [], laidByText := true, laidKinds := [.data, .data, .data, .data, .pinned], laidTests := true, laidLooks := .later }
def ImageBackUptoCardSaid : Prop := Claim7.holds Tryz.pinned (.plain (OpenSpec.upto imageBackSpec)) imageBackUptoCard

/-- THE SECOND FORM's CARD OF 'solspacekeep.ImageBit'. -/
def imageBitUptoCard : Claim7 := { stood := { row := imageBitUptoRow, standIns := [], harness := (true, "ae9433b6fbd0317327b8b3dabbc5b612e82835f1f7865dabb8435171b2a8850e"), looks := true }, kinds := [], alts := [], laidByText := true, laidKinds := [.data, .data, .data, .data, .pinned], laidTests := true, laidLooks := .later }
def ImageBitUptoCardSaid : Prop := Claim7.holds Tryz.pinned (.plain (OpenSpec.upto imageBitSpec)) imageBitUptoCard
end Rows
end Go.Proofs.YtcjjekhecjmaeaaGreatDoor
