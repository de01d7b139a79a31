/- The closed facts of ReasonReiters's row. -/
import Derived.Test.YtapobpgbcbplbaaGreatDoorRows
import Derived.JoinedOf
set_option maxHeartbeats 0
set_option maxRecDepth 100000
namespace Go.Proofs.YtapobpgbcbplbaaGreatDoor.reasonReiters
theorem facts:joinedFacts Tryz.pinned.checked.prog 3 Tryz.f3 (OpenSpec.ofChange Rows.reasonReitersSpec).bare Rows.reasonReitersRow=true:=by
 unfold joinedFacts
 repeat' (with_reducible refine Bool.and_eq_true_iff.2 ⟨?_,?_⟩)
 all_goals as_aux_lemma=>kernel_rfl
end Go.Proofs.YtapobpgbcbplbaaGreatDoor.reasonReiters
