/- The closed facts of ReasonAll's row. -/
import Derived.Test.YtiihalknffbjpaaGreatDoorRows
import Derived.JoinedOf
set_option maxHeartbeats 0
set_option maxRecDepth 100000
namespace Go.Proofs.YtiihalknffbjpaaGreatDoor.reasonAll
theorem facts:joinedFacts Tryz.pinned.checked.prog 9 Tryz.f9 (OpenSpec.ofChange Rows.reasonAllSpec).bare Rows.reasonAllRow=true:=by
 unfold joinedFacts
 repeat' (with_reducible refine Bool.and_eq_true_iff.2 ⟨?_,?_⟩)
 all_goals as_aux_lemma=>kernel_rfl
end Go.Proofs.YtiihalknffbjpaaGreatDoor.reasonAll
