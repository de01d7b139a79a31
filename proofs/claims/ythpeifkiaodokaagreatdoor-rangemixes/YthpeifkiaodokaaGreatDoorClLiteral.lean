/- Literals. -/
import Derived.Test.YthpeifkiaodokaaGreatDoorErAt
import Derived.Test.YthpeifkiaodokaaGreatDoorClBaseI
namespace Go.Proofs.YthpeifkiaodokaaGreatDoor
open Go.RowKit

/-- A literal over so many variables. -/
def litB (v x : Int) : Bool := decide (x ≠ 0 ∧ -v ≤ x ∧ x ≤ v)

set_option maxRecDepth 100000 in
set_option maxHeartbeats 1000000 in
theorem literal_any (x v : Int) (h0 : 0 ≤ v) (h1 : v ≤ 24) (w : World) :
    Calls Tryz.prog 142 #[.int .i64 x, .int .i64 v] w fun e w' => e = .returned (.bool (litB v x)) ∧ w = w' := by
  by_cases hx : x = 0
  · have e : litB v x = false := by simp [litB, hx]
    rw [e]
    go_enter Tryz.func142, Tryz.ntmps142
    go_wp2
    go_ret
    exact ⟨rfl, rfl⟩
  · by_cases h2 : -v ≤ x
    · by_cases h3 : x ≤ v
      · have e : litB v x = true := by simp [litB, hx, h2, h3]
        rw [e]
        have hx' : (x != 0) = true := by simpa using hx
        go_enter Tryz.func142, Tryz.ntmps142
        go_wp2
        go_ret
        exact ⟨rfl, rfl⟩
      · have e : litB v x = false := by simp [litB, h3]
        rw [e]
        go_enter Tryz.func142, Tryz.ntmps142
        go_wp2
        go_ret
        exact ⟨rfl, rfl⟩
    · have e : litB v x = false := by simp [litB, h2]
      rw [e]
      go_enter Tryz.func142, Tryz.ntmps142
      go_wp2
      go_ret
      exact ⟨rfl, rfl⟩

end Go.Proofs.YthpeifkiaodokaaGreatDoor
