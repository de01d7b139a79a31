/- The closed facts of SpaceFixed's row. -/
import Derived.Test.YtjmfeefogikdfaaGreatDoorRows
import Derived.JoinedOf
set_option maxHeartbeats 0
set_option maxRecDepth 100000
namespace Go.Proofs.YtjmfeefogikdfaaGreatDoor.spaceFixed
theorem facts:joinedFacts Tryz.pinned.checked.prog 3 Tryz.f3 (OpenSpec.ofChange Rows.spaceFixedSpec).bare Rows.spaceFixedRow=true:=by
 unfold joinedFacts
 repeat' (with_reducible refine Bool.and_eq_true_iff.2 ⟨?_,?_⟩)
 all_goals as_aux_lemma=>kernel_rfl
end Go.Proofs.YtjmfeefogikdfaaGreatDoor.spaceFixed
