/- SpaceFixed: what is always there, and never, is so of each installation; and with one more rule that says otherwise there is none. No condition; the library's variables that are listed are as the program's text lays them (the card ties them). -/
import Derived.Test.YtjmfeefogikdfaaGreatDoorSfixedC
set_option maxRecDepth 100000
namespace Go.Proofs.YtjmfeefogikdfaaGreatDoor.spaceFixed
open Go.ChangeShapes Go.WideShapes Go.ChangeAt Go.RowKit
open Go.ChangeMaps (open_string shut_string)
theorem card:Rows.SpaceFixedCardSaid :=
 Claim7.holds_tied_plain_at .later [] _ _ _ _ zgF (fun _ h=>by cases h) (by as_aux_lemma=>kernel_rfl) (fun _ h=>by cases h) spaceFixed_row_tie rfl ⟨rfl,rfl⟩ (by as_aux_lemma=>kernel_rfl) rfl plain (by as_aux_lemma=>kernel_rfl)
end Go.Proofs.YtjmfeefogikdfaaGreatDoor.spaceFixed
namespace Go.Proofs.YtjmfeefogikdfaaGreatDoor
theorem spaceFixed_holds:Rows.SpaceFixedCardSaid:=spaceFixed.card
end Go.Proofs.YtjmfeefogikdfaaGreatDoor
