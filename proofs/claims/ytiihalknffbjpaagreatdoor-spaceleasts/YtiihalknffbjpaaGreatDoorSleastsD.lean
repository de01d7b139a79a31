/- SpaceLeasts: the card itself. -/
import Derived.Test.YtiihalknffbjpaaGreatDoorSleastsC
set_option maxRecDepth 100000
namespace Go.Proofs.YtiihalknffbjpaaGreatDoor.spaceLeasts
open Go.ChangeShapes Go.WideShapes Go.ChangeAt Go.RowKit
open Go.ChangeMaps (open_string shut_string)
theorem card:Rows.SpaceLeastsCardSaid :=
 Claim7.holds_tied_plain_at .later [] _ _ _ _ said (fun _ h=>by cases h) (by as_aux_lemma=>kernel_rfl) (fun _ h=>by cases h) spaceLeasts_row_tie rfl ⟨rfl,rfl⟩ (by as_aux_lemma=>kernel_rfl) rfl plain (by as_aux_lemma=>kernel_rfl)
end Go.Proofs.YtiihalknffbjpaaGreatDoor.spaceLeasts
namespace Go.Proofs.YtiihalknffbjpaaGreatDoor
theorem spaceLeasts_holds:Rows.SpaceLeastsCardSaid:=spaceLeasts.card
end Go.Proofs.YtiihalknffbjpaaGreatDoor
