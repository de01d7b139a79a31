/- PlanChanges: the card itself. -/
import Derived.Test.YtpmpnbbihmgdpaaGreatDoorPchC
set_option maxRecDepth 100000
namespace Go.Proofs.YtpmpnbbihmgdpaaGreatDoor.planChanges
open Go.ChangeShapes Go.WideShapes Go.ChangeAt Go.RowKit
open Go.ChangeMaps (open_string shut_string)
theorem card : Rows.PlanChangesCardSaid :=
 Claim7.holds_tied_plain_at .later [] _ _ _ _ said (fun _ h => by cases h) (by as_aux_lemma => kernel_rfl) (fun _ h => by cases h) planChanges_row_tie rfl ⟨rfl, rfl⟩ (by as_aux_lemma => kernel_rfl) rfl plain (by as_aux_lemma => kernel_rfl)
end Go.Proofs.YtpmpnbbihmgdpaaGreatDoor.planChanges
namespace Go.Proofs.YtpmpnbbihmgdpaaGreatDoor
theorem planChanges_holds : Rows.PlanChangesCardSaid := planChanges.card
end Go.Proofs.YtpmpnbbihmgdpaaGreatDoor
