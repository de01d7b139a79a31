/- PlanOrders: the card itself. -/
import Derived.Test.YtlamemjfaogjmaaGreatDoorPorsC
set_option maxRecDepth 100000
namespace Go.Proofs.YtlamemjfaogjmaaGreatDoor.planOrders
open Go.ChangeShapes Go.WideShapes Go.ChangeAt Go.RowKit
open Go.ChangeMaps (open_string shut_string)
theorem card:Rows.PlanOrdersCardSaid :=
 Claim7.holds_tied_plain_at .later [] _ _ _ _ zbK (fun _ h=>by cases h) (by as_aux_lemma=>kernel_rfl) (fun _ h=>by cases h) planOrders_row_tie rfl ⟨rfl,rfl⟩ (by as_aux_lemma=>kernel_rfl) rfl plain (by as_aux_lemma=>kernel_rfl)
end Go.Proofs.YtlamemjfaogjmaaGreatDoor.planOrders
namespace Go.Proofs.YtlamemjfaogjmaaGreatDoor
theorem planOrders_holds:Rows.PlanOrdersCardSaid:=planOrders.card
end Go.Proofs.YtlamemjfaogjmaaGreatDoor
