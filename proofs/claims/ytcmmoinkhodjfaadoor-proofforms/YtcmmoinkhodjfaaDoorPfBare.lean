/- bare, of an error that has no place. -/
import Derived.Test.YtcmmoinkhodjfaaDoorErAt
namespace Go.Proofs.YtcmmoinkhodjfaaDoor
open Go.RowKit Go.Deep

set_option maxRecDepth 100000 in
set_option maxHeartbeats 1000000 in
theorem bare_any (m k : Int) (v : Value) (w : World) (hg : Glob w) (hv : ErrIs w v m (-1)) :
    Calls Tryd.prog 13 #[v, .int .i64 k] w fun e w' => e = .returned (.bool (m == k)) ∧ Below w.heap.size w w' := by
  generalize hz : (m == k) = z
  have HG := Lib.hid hg
  have HV := Lib.hid hv
  clear hg hv
  go_enter Tryd.func13, Tryd.ntmps13
  go_wp2_with fail
  refine (refBare k _).mono ?_
  rintro e w1 ⟨rfl, hb1⟩
  have HA := at_any m k (-1) (-1) v w1 (HG.out.below hb1) (HV.out.below hb1)
  rw [beq_self_eq_true, Bool.and_true, hz] at HA
  clear hz
  go_wp2_with fail
  refine HA.mono ?_
  rintro e w2 ⟨rfl, hb2⟩
  go_wp2
  go_ret
  exact ⟨rfl, hb1.trans (hb2.mono hb1.size)⟩
end Go.Proofs.YtcmmoinkhodjfaaDoor
