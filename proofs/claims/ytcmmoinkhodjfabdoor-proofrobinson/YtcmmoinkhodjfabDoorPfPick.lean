/- pick. -/
import Derived.Test.YtcmmoinkhodjfabDoorClRow
import Derived.Deep.DeepFit
namespace Go.Proofs.YtcmmoinkhodjfabDoor
open Go.RowKit Go.Deep

def pickV (x : Int) (n : Nat) : Nat := ((x % 18446744073709551616).toNat) % n
theorem pickV_lt (x : Int) {n : Nat} (h : 0 < n) : pickV x n < n := Nat.mod_lt _ h

set_option maxRecDepth 100000 in
set_option maxHeartbeats 1000000 in
theorem pick_any (x : Int) (n : Nat) (h0 : 0 < n) (h1 : n ≤ 1000000) (w : World) :
    Calls Tryd.prog 7 #[.int .i64 x, .int .i64 (n : Int)] w fun e w' => e = .returned (.int .i64 (pickV x n : Int)) ∧ w = w' := by
  have hp := pickV_lt x h0
  have e1 : IntKind.u64.wrap x = x % 18446744073709551616 := by rw [IntKind.wrap_u64]
  have e2 : IntKind.u64.wrap (n : Int) = (n : Int) := IntWalk.u64_in _ ⟨by omega, by omega⟩
  have e3 : Int.tmod (x % 18446744073709551616) (n : Int) = (pickV x n : Int) := by
    unfold pickV
    obtain ⟨m, hm⟩ : ∃ m : Nat, x % 18446744073709551616 = (m : Int) := ⟨(x % 18446744073709551616).toNat, by omega⟩
    rw [hm]; simp
    rfl
  have e4 : IntKind.i64.wrap (pickV x n : Int) = (pickV x n : Int) := IntWalk.i64_in _ ⟨by omega, by omega⟩
  have e5 : ((n : Int) == 0) = false := by rw [beq_eq_false_iff_ne]; omega
  generalize pickV x n = p at *
  go_enter Tryd.func7, Tryd.ntmps7
  go_wp2
  go_ret
  exact ⟨rfl, rfl⟩

end Go.Proofs.YtcmmoinkhodjfabDoor
