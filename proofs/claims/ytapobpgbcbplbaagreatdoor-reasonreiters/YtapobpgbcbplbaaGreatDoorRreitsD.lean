/- ReasonReiters: the least sets without which the other lines can be together are just the least that have something of each core, and the cores are just the least that have something of each of those. No condition; the library's variables that are listed are as the program's text lays them (the card ties them). -/
import Derived.Test.YtapobpgbcbplbaaGreatDoorRreitsC
set_option maxRecDepth 100000
namespace Go.Proofs.YtapobpgbcbplbaaGreatDoor.reasonReiters
open Go.ChangeShapes Go.WideShapes Go.ChangeAt Go.RowKit
open Go.ChangeMaps (open_string shut_string)
theorem card:Rows.ReasonReitersCardSaid :=
 Claim7.holds_tied_plain_at .later [] _ _ _ _ zlF (fun _ h=>by cases h) (by as_aux_lemma=>kernel_rfl) (fun _ h=>by cases h) reasonReiters_row_tie rfl ⟨rfl,rfl⟩ (by as_aux_lemma=>kernel_rfl) rfl plain (by as_aux_lemma=>kernel_rfl)
end Go.Proofs.YtapobpgbcbplbaaGreatDoor.reasonReiters
namespace Go.Proofs.YtapobpgbcbplbaaGreatDoor
theorem reasonReiters_holds:Rows.ReasonReitersCardSaid:=reasonReiters.card
end Go.Proofs.YtapobpgbcbplbaaGreatDoor
