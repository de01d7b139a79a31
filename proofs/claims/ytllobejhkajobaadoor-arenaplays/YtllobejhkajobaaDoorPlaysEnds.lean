/- ArenaPlays: too many steps; a room that there is not. -/
import Derived.Test.YtllobejhkajobaaDoorPlaysMath
namespace Go.Proofs.YtllobejhkajobaaDoor
open Go.RowKit Go.Maps Go.Sort

set_option maxRecDepth 100000 in
set_option maxHeartbeats 1000000 in
theorem plays_long (room : Int) (a : Option Addr) (n c : Nat) (h : 80 < n) (w : World) :
    Calls Tryd.prog 3 #[.int .i64 room, .slice a n c] w fun e w' => e = .returned (.bool true) ∧ w = w' := by
  have ih : (80 : Int) < (n : Int) := by omega
  go_enter Tryd.func3, Tryd.ntmps3
  go_wp2
  go_ret
  exact ⟨rfl, rfl⟩

set_option maxRecDepth 100000 in
set_option maxHeartbeats 1000000 in
theorem plays_out (room : Int) (a : Option Addr) (n c : Nat) (h : ¬ 80 < n) (hr : room < 0 ∨ 4000 < room) (w : World) (hg : Glob w) :
    Calls Tryd.prog 3 #[.int .i64 room, .slice a n c] w fun e w' => e = .returned (.bool true) ∧ Below w.heap.size w w' := by
  have ih : ¬ (80 : Int) < (n : Int) := by omega
  have HN := Lib.hid (new_out room hr w)
  have HB := Lib.hid (bare_errno 2 2 w hg)
  by_cases h0 : room < 0
  · clear hr
    go_enter Tryd.func3, Tryd.ntmps3
    go_wp2_with fail
    refine HN.out.mono ?_
    rintro e w1 ⟨rfl, rfl⟩
    clear HN
    go_wp2_with fail
    refine HB.out.mono ?_
    rintro e w2 ⟨rfl, hb2⟩
    clear HB
    go_wp2
    go_ret
    exact ⟨rfl, hb2⟩
  · have h1 : 4000 < room := by omega
    clear hr
    go_enter Tryd.func3, Tryd.ntmps3
    go_wp2_with fail
    refine HN.out.mono ?_
    rintro e w1 ⟨rfl, rfl⟩
    clear HN
    go_wp2_with fail
    refine HB.out.mono ?_
    rintro e w2 ⟨rfl, hb2⟩
    clear HB
    go_wp2
    go_ret
    exact ⟨rfl, hb2⟩
end Go.Proofs.YtllobejhkajobaaDoor
