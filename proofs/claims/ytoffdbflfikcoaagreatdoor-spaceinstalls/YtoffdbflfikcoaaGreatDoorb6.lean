/- The closed facts of SpaceInstalls's row. -/
import Derived.Test.YtoffdbflfikcoaaGreatDoorRows
import Derived.JoinedOf
set_option maxHeartbeats 0
set_option maxRecDepth 100000
namespace Go.Proofs.YtoffdbflfikcoaaGreatDoor.spaceInstalls
theorem facts:joinedFacts Tryz.pinned.checked.prog 3 Tryz.f3 (OpenSpec.ofChange Rows.spaceInstallsSpec).bare Rows.spaceInstallsRow=true:=by
 unfold joinedFacts
 repeat' (with_reducible refine Bool.and_eq_true_iff.2 ⟨?_,?_⟩)
 all_goals as_aux_lemma=>kernel_rfl
end Go.Proofs.YtoffdbflfikcoaaGreatDoor.spaceInstalls
