/- The closed facts of PlanOrders's row. -/
import Derived.Test.YtlamemjfaogjmaaGreatDoorRows
import Derived.JoinedOf
set_option maxHeartbeats 0
set_option maxRecDepth 100000
namespace Go.Proofs.YtlamemjfaogjmaaGreatDoor.planOrders
theorem facts:joinedFacts Tryz.pinned.checked.prog 3 Tryz.f3 (OpenSpec.ofChange Rows.planOrdersSpec).bare Rows.planOrdersRow=true:=by
 unfold joinedFacts
 repeat' (with_reducible refine Bool.and_eq_true_iff.2 ⟨?_,?_⟩)
 all_goals as_aux_lemma=>kernel_rfl
end Go.Proofs.YtlamemjfaogjmaaGreatDoor.planOrders
