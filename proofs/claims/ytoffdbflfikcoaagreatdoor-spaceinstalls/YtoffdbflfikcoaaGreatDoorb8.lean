/- SpaceInstalls: how many installations there are, which items are always, and never, there, is found by trying all. No condition; the library's variables that are listed are as the program's text lays them (the card ties them). -/
import Derived.Test.YtoffdbflfikcoaaGreatDoorb7
set_option maxRecDepth 100000
namespace Go.Proofs.YtoffdbflfikcoaaGreatDoor.spaceInstalls
open Go.ChangeShapes Go.WideShapes Go.ChangeAt Go.RowKit
open Go.ChangeMaps (open_string shut_string)
theorem card:Rows.SpaceInstallsCardSaid :=
 Claim7.holds_tied_plain_at .later [] _ _ _ _ zpC (fun _ h=>by cases h) (by as_aux_lemma=>kernel_rfl) (fun _ h=>by cases h) spaceInstalls_row_tie rfl ⟨rfl,rfl⟩ (by as_aux_lemma=>kernel_rfl) rfl plain (by as_aux_lemma=>kernel_rfl)
end Go.Proofs.YtoffdbflfikcoaaGreatDoor.spaceInstalls
namespace Go.Proofs.YtoffdbflfikcoaaGreatDoor
theorem spaceInstalls_holds:Rows.SpaceInstallsCardSaid:=spaceInstalls.card
