/- ImageBack: all arguments. -/
import Derived.Test.YtcjjekhecjmaeaaGreatDoorImBackL
set_option maxHeartbeats 2000000
set_option maxRecDepth 100000
namespace Go.Proofs.YtcjjekhecjmaeaaGreatDoor
open Go.RowKit Go.Maps
theorem back_no (vars : Int) (xs : List Quad) (va : Value) (z : Int) (w : World) (hx : ArgQuads w va xs) (hn : xs.length <= 9223372036854775807) (h : vars < 1 \/ 6 < vars \/ 25 < xs.length) :
  Calls Tryz.prog 6 #[.int .i64 vars, va, .int .u64 z] w fun e w' => e = .returned (.bool true) /\ Below w.heap.size w w' := by
 obtain ⟨a, c, rfl, -⟩ := hx
 have HS := Lib.hid (space_no vars a xs.length c h hn w)
 clear h
 go_enter Tryz.func6, Tryz.ntmps6
 go_wp2_with fail
 refine HS.out.mono ?_
 rintro e w1 ⟨rfl, rfl⟩
 go_wp2_with fail
 go_ret
 exact ⟨rfl, Below.refl _ _⟩
theorem back_any (vars : Int) (xs : List Quad) (va : Value) (vn : Nat) (hvn : vn < 18446744073709551616) (w : World) (ht : Tab10 w) (n : Int) (hm : w.cell? ⟨2, 0, none⟩ = some (.int .i64 n)) (hmg : 2 < w.heap.size) (hx : ArgQuads w va xs) (hn : xs.length <= 9223372036854775807) :
  Calls Tryz.prog 6 #[.int .i64 vars, va, .int .u64 (vn : Int)] w fun e w' => e = .returned (.bool true) /\ Below w.heap.size w w' := by
 by_cases h : vars < 1 \/ 6 < vars \/ 25 < xs.length
 ·exact back_no vars xs va _ w hx hn h
 ·obtain ⟨k, rfl⟩ : ∃ k : Nat, vars = (k : Int) := ⟨vars.toNat, by omega⟩
  exact back_walk k (by omega) (by omega) xs va vn hvn w hx (by omega) ht n hm hmg
end Go.Proofs.YtcjjekhecjmaeaaGreatDoor
