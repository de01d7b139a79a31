/- Has of a version that is none: a part below 0 or above 999. -/
import Derived.Test.YthpeifkiaodokaaGreatDoorSvHas
namespace Go.Proofs.YthpeifkiaodokaaGreatDoor
open Go.RowKit Sv
set_option maxRecDepth 100000 in
set_option maxHeartbeats 1000000 in
theorem has_out0neg (va : Option Addr) (vl vc : Nat) (a b c : Int) (hx : a < 0) (w : World) :
    Calls Tryz.prog 25 #[.agg #[.slice va vl vc], .agg #[.int .i64 a, .int .i64 b, .int .i64 c]] w fun e w' => e = .returned (.bool false) ∧ Below w.heap.size w w' := by
  have hB0 : Below w.heap.size w ((w.alloc (.cells #[.slice va vl vc] 31)).alloc (.cells #[.int .i64 a, .int .i64 b, .int .i64 c] 42)) := ((Below.refl _ w).alloc (Nat.le_refl _) _).alloc (by simp only [World.size_alloc]; omega) _
  have HB0 := Lib.hid hB0
  clear hB0
  go_enter Tryz.func25, Tryz.ntmps25
  go_wp2_with fail
  generalize (w.alloc (.cells #[.slice va vl vc] 31)).alloc (.cells #[.int .i64 a, .int .i64 b, .int .i64 c] 42) = W0 at *
  go_loop [10] (fun i => ∃ k : Nat, k ≤ 0 ∧ i = .int .i64 (k : Int)) (fun i => 3 - (intOf i).toNat)
  case atStart => exact ⟨0, by omega, rfl⟩
  case round =>
    obtain ⟨k, hk, rfl⟩ := hrel
    match k, hk with
    | 0, _ =>
      have hix := idx0 a b c W0
      go_wp2
      go_ret
      exact ⟨rfl, HB0.out⟩
set_option maxRecDepth 100000 in
set_option maxHeartbeats 1000000 in
theorem has_out0big (va : Option Addr) (vl vc : Nat) (a b c : Int) (hx0 : ¬ a < 0) (hx : 999 < a) (w : World) :
    Calls Tryz.prog 25 #[.agg #[.slice va vl vc], .agg #[.int .i64 a, .int .i64 b, .int .i64 c]] w fun e w' => e = .returned (.bool false) ∧ Below w.heap.size w w' := by
  have hB0 : Below w.heap.size w ((w.alloc (.cells #[.slice va vl vc] 31)).alloc (.cells #[.int .i64 a, .int .i64 b, .int .i64 c] 42)) := ((Below.refl _ w).alloc (Nat.le_refl _) _).alloc (by simp only [World.size_alloc]; omega) _
  have HB0 := Lib.hid hB0
  clear hB0
  go_enter Tryz.func25, Tryz.ntmps25
  go_wp2_with fail
  generalize (w.alloc (.cells #[.slice va vl vc] 31)).alloc (.cells #[.int .i64 a, .int .i64 b, .int .i64 c] 42) = W0 at *
  go_loop [10] (fun i => ∃ k : Nat, k ≤ 0 ∧ i = .int .i64 (k : Int)) (fun i => 3 - (intOf i).toNat)
  case atStart => exact ⟨0, by omega, rfl⟩
  case round =>
    obtain ⟨k, hk, rfl⟩ := hrel
    match k, hk with
    | 0, _ =>
      have hix := idx0 a b c W0
      go_wp2
      go_ret
      exact ⟨rfl, HB0.out⟩
set_option maxRecDepth 100000 in
set_option maxHeartbeats 1000000 in
theorem has_out1neg (va : Option Addr) (vl vc : Nat) (a b c : Int) (ha0 : ¬ a < 0) (ha1 : ¬ 999 < a) (hx : b < 0) (w : World) :
    Calls Tryz.prog 25 #[.agg #[.slice va vl vc], .agg #[.int .i64 a, .int .i64 b, .int .i64 c]] w fun e w' => e = .returned (.bool false) ∧ Below w.heap.size w w' := by
  have hB0 : Below w.heap.size w ((w.alloc (.cells #[.slice va vl vc] 31)).alloc (.cells #[.int .i64 a, .int .i64 b, .int .i64 c] 42)) := ((Below.refl _ w).alloc (Nat.le_refl _) _).alloc (by simp only [World.size_alloc]; omega) _
  have HB0 := Lib.hid hB0
  clear hB0
  go_enter Tryz.func25, Tryz.ntmps25
  go_wp2_with fail
  generalize (w.alloc (.cells #[.slice va vl vc] 31)).alloc (.cells #[.int .i64 a, .int .i64 b, .int .i64 c] 42) = W0 at *
  go_loop [10] (fun i => ∃ k : Nat, k ≤ 1 ∧ i = .int .i64 (k : Int)) (fun i => 3 - (intOf i).toNat)
  case atStart => exact ⟨0, by omega, rfl⟩
  case round =>
    obtain ⟨k, hk, rfl⟩ := hrel
    match k, hk with
    | 0, _ =>
      have hix := idx0 a b c W0
      go_wp2
      go_round
      case rel => exact ⟨1, by omega, rfl⟩
      case measure => simp [intOf]
    | 1, _ =>
      have hix := idx1 a b c W0
      go_wp2
      go_ret
      exact ⟨rfl, HB0.out⟩
set_option maxRecDepth 100000 in
set_option maxHeartbeats 1000000 in
theorem has_out1big (va : Option Addr) (vl vc : Nat) (a b c : Int) (ha0 : ¬ a < 0) (ha1 : ¬ 999 < a) (hx0 : ¬ b < 0) (hx : 999 < b) (w : World) :
    Calls Tryz.prog 25 #[.agg #[.slice va vl vc], .agg #[.int .i64 a, .int .i64 b, .int .i64 c]] w fun e w' => e = .returned (.bool false) ∧ Below w.heap.size w w' := by
  have hB0 : Below w.heap.size w ((w.alloc (.cells #[.slice va vl vc] 31)).alloc (.cells #[.int .i64 a, .int .i64 b, .int .i64 c] 42)) := ((Below.refl _ w).alloc (Nat.le_refl _) _).alloc (by simp only [World.size_alloc]; omega) _
  have HB0 := Lib.hid hB0
  clear hB0
  go_enter Tryz.func25, Tryz.ntmps25
  go_wp2_with fail
  generalize (w.alloc (.cells #[.slice va vl vc] 31)).alloc (.cells #[.int .i64 a, .int .i64 b, .int .i64 c] 42) = W0 at *
  go_loop [10] (fun i => ∃ k : Nat, k ≤ 1 ∧ i = .int .i64 (k : Int)) (fun i => 3 - (intOf i).toNat)
  case atStart => exact ⟨0, by omega, rfl⟩
  case round =>
    obtain ⟨k, hk, rfl⟩ := hrel
    match k, hk with
    | 0, _ =>
      have hix := idx0 a b c W0
      go_wp2
      go_round
      case rel => exact ⟨1, by omega, rfl⟩
      case measure => simp [intOf]
    | 1, _ =>
      have hix := idx1 a b c W0
      go_wp2
      go_ret
      exact ⟨rfl, HB0.out⟩
set_option maxRecDepth 100000 in
set_option maxHeartbeats 1000000 in
theorem has_out2neg (va : Option Addr) (vl vc : Nat) (a b c : Int) (ha0 : ¬ a < 0) (ha1 : ¬ 999 < a) (hb0 : ¬ b < 0) (hb1 : ¬ 999 < b) (hx : c < 0) (w : World) :
    Calls Tryz.prog 25 #[.agg #[.slice va vl vc], .agg #[.int .i64 a, .int .i64 b, .int .i64 c]] w fun e w' => e = .returned (.bool false) ∧ Below w.heap.size w w' := by
  have hB0 : Below w.heap.size w ((w.alloc (.cells #[.slice va vl vc] 31)).alloc (.cells #[.int .i64 a, .int .i64 b, .int .i64 c] 42)) := ((Below.refl _ w).alloc (Nat.le_refl _) _).alloc (by simp only [World.size_alloc]; omega) _
  have HB0 := Lib.hid hB0
  clear hB0
  go_enter Tryz.func25, Tryz.ntmps25
  go_wp2_with fail
  generalize (w.alloc (.cells #[.slice va vl vc] 31)).alloc (.cells #[.int .i64 a, .int .i64 b, .int .i64 c] 42) = W0 at *
  go_loop [10] (fun i => ∃ k : Nat, k ≤ 2 ∧ i = .int .i64 (k : Int)) (fun i => 3 - (intOf i).toNat)
  case atStart => exact ⟨0, by omega, rfl⟩
  case round =>
    obtain ⟨k, hk, rfl⟩ := hrel
    match k, hk with
    | 0, _ =>
      have hix := idx0 a b c W0
      go_wp2
      go_round
      case rel => exact ⟨1, by omega, rfl⟩
      case measure => simp [intOf]
    | 1, _ =>
      have hix := idx1 a b c W0
      go_wp2
      go_round
      case rel => exact ⟨2, by omega, rfl⟩
      case measure => simp [intOf]
    | 2, _ =>
      have hix := idx2 a b c W0
      go_wp2
      go_ret
      exact ⟨rfl, HB0.out⟩
set_option maxRecDepth 100000 in
set_option maxHeartbeats 1000000 in
theorem has_out2big (va : Option Addr) (vl vc : Nat) (a b c : Int) (ha0 : ¬ a < 0) (ha1 : ¬ 999 < a) (hb0 : ¬ b < 0) (hb1 : ¬ 999 < b) (hx0 : ¬ c < 0) (hx : 999 < c) (w : World) :
    Calls Tryz.prog 25 #[.agg #[.slice va vl vc], .agg #[.int .i64 a, .int .i64 b, .int .i64 c]] w fun e w' => e = .returned (.bool false) ∧ Below w.heap.size w w' := by
  have hB0 : Below w.heap.size w ((w.alloc (.cells #[.slice va vl vc] 31)).alloc (.cells #[.int .i64 a, .int .i64 b, .int .i64 c] 42)) := ((Below.refl _ w).alloc (Nat.le_refl _) _).alloc (by simp only [World.size_alloc]; omega) _
  have HB0 := Lib.hid hB0
  clear hB0
  go_enter Tryz.func25, Tryz.ntmps25
  go_wp2_with fail
  generalize (w.alloc (.cells #[.slice va vl vc] 31)).alloc (.cells #[.int .i64 a, .int .i64 b, .int .i64 c] 42) = W0 at *
  go_loop [10] (fun i => ∃ k : Nat, k ≤ 2 ∧ i = .int .i64 (k : Int)) (fun i => 3 - (intOf i).toNat)
  case atStart => exact ⟨0, by omega, rfl⟩
  case round =>
    obtain ⟨k, hk, rfl⟩ := hrel
    match k, hk with
    | 0, _ =>
      have hix := idx0 a b c W0
      go_wp2
      go_round
      case rel => exact ⟨1, by omega, rfl⟩
      case measure => simp [intOf]
    | 1, _ =>
      have hix := idx1 a b c W0
      go_wp2
      go_round
      case rel => exact ⟨2, by omega, rfl⟩
      case measure => simp [intOf]
    | 2, _ =>
      have hix := idx2 a b c W0
      go_wp2
      go_ret
      exact ⟨rfl, HB0.out⟩

theorem has_out (va : Option Addr) (vl vc : Nat) (a b c : Int) (h : ¬ ((0 ≤ a ∧ a ≤ 999) ∧ (0 ≤ b ∧ b ≤ 999) ∧ (0 ≤ c ∧ c ≤ 999))) (w : World) :
    Calls Tryz.prog 25 #[.agg #[.slice va vl vc], .agg #[.int .i64 a, .int .i64 b, .int .i64 c]] w fun e w' => e = .returned (.bool false) ∧ Below w.heap.size w w' := by
  by_cases a0 : a < 0
  · exact has_out0neg va vl vc a b c a0 w
  by_cases a1 : 999 < a
  · exact has_out0big va vl vc a b c a0 a1 w
  by_cases b0 : b < 0
  · exact has_out1neg va vl vc a b c a0 a1 b0 w
  by_cases b1 : 999 < b
  · exact has_out1big va vl vc a b c a0 a1 b0 b1 w
  by_cases c0 : c < 0
  · exact has_out2neg va vl vc a b c a0 a1 b0 b1 c0 w
  by_cases c1 : 999 < c
  · exact has_out2big va vl vc a b c a0 a1 b0 b1 c0 c1 w
  exact absurd ⟨⟨by omega, by omega⟩, ⟨by omega, by omega⟩, ⟨by omega, by omega⟩⟩ h
end Go.Proofs.YthpeifkiaodokaaGreatDoor
