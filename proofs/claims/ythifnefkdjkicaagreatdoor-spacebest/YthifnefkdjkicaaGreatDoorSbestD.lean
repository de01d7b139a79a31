/- SpaceBest: the least installation, the nearest, and the cheapest one are found by trying all. No condition; the library's variables that are listed are as the program's text lays them (the card ties them). -/
import Derived.Test.YthifnefkdjkicaaGreatDoorSbestC
set_option maxRecDepth 100000
namespace Go.Proofs.YthifnefkdjkicaaGreatDoor.spaceBest
open Go.ChangeShapes Go.WideShapes Go.ChangeAt Go.RowKit
open Go.ChangeMaps (open_string shut_string)
theorem card:Rows.SpaceBestCardSaid :=
 Claim7.holds_tied_plain_at .later [] _ _ _ _ zjQ (fun _ h=>by cases h) (by as_aux_lemma=>kernel_rfl) (fun _ h=>by cases h) spaceBest_row_tie rfl ⟨rfl,rfl⟩ (by as_aux_lemma=>kernel_rfl) rfl plain (by as_aux_lemma=>kernel_rfl)
end Go.Proofs.YthifnefkdjkicaaGreatDoor.spaceBest
namespace Go.Proofs.YthifnefkdjkicaaGreatDoor
theorem spaceBest_holds:Rows.SpaceBestCardSaid:=spaceBest.card
end Go.Proofs.YthifnefkdjkicaaGreatDoor
