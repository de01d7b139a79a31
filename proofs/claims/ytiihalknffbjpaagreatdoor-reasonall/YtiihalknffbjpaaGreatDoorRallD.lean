/- ReasonAll: the card itself. -/
import Derived.Test.YtiihalknffbjpaaGreatDoorRallC
set_option maxRecDepth 100000
namespace Go.Proofs.YtiihalknffbjpaaGreatDoor.reasonAll
open Go.ChangeShapes Go.WideShapes Go.ChangeAt Go.RowKit
open Go.ChangeMaps (open_string shut_string)
theorem card:Rows.ReasonAllCardSaid :=
 Claim7.holds_tied_plain_at .later [] _ _ _ _ zeM (fun _ h=>by cases h) (by as_aux_lemma=>kernel_rfl) (fun _ h=>by cases h) reasonAll_row_tie rfl ⟨rfl,rfl⟩ (by as_aux_lemma=>kernel_rfl) rfl plain (by as_aux_lemma=>kernel_rfl)
end Go.Proofs.YtiihalknffbjpaaGreatDoor.reasonAll
namespace Go.Proofs.YtiihalknffbjpaaGreatDoor
theorem reasonAll_holds:Rows.ReasonAllCardSaid:=reasonAll.card
end Go.Proofs.YtiihalknffbjpaaGreatDoor
