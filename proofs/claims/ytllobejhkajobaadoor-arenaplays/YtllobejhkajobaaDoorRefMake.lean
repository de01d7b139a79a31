/- The reference's Make: what it refuses. -/
import Derived.Test.YtllobejhkajobaaDoorRefTop
namespace Go.Proofs.YtllobejhkajobaaDoor
open Go.RowKit Go.Maps Go.Sort

section
variable {B : Nat} {w : World} {rb rm : Nat} {ns : List Nd} {L : List (Int × Nd)} {room : Int}

set_option maxRecDepth 100000 in
set_option maxHeartbeats 2000000 in
theorem rmake_range (n : Nd) (h : n.v < 0 ∨ 24 ≤ n.v) :
    Calls Tryd.prog 7 #[.pointer (some ⟨rb, 0, none⟩), n.val] w fun e w' => e = .returned (.tuple #[.int .i64 0, .int .i64 2]) ∧ Below w.heap.size w w' := by
  obtain ⟨x, lo, hi⟩ := n
  simp only at h
  have hbn := below_new w (.cells #[.int .i64 x, .int .i64 lo, .int .i64 hi] 42)
  have HW := Lib.hid (within_any x 0 23 (w.alloc (.cells #[.int .i64 x, .int .i64 lo, .int .i64 hi] 42)))
  have hd : (decide ((0 : Int) ≤ x) && decide (x ≤ 23)) = false := by
    rcases h with h | h
    · rw [decide_eq_false (by omega), Bool.false_and]
    · rw [decide_eq_false (show ¬ x ≤ 23 by omega), Bool.and_false]
  rw [hd] at HW
  unfold Nd.val
  clear h hd
  go_enter Tryd.func7, Tryd.ntmps7
  go_wp2_with fail
  refine HW.out.mono ?_
  rintro e wz ⟨rfl, rfl⟩
  go_wp2
  go_ret2
  exact ⟨rfl, hbn⟩

theorem within_in {x : Int} (h0 : 0 ≤ x) (h1 : x < 24) (w : World) : Calls Tryd.prog 22 #[.int .i64 x, .int .i64 0, .int .i64 23] w fun e w' => e = .returned (.bool true) ∧ w = w' := by
  have := within_any x 0 23 w
  rwa [decide_eq_true h0, decide_eq_true (show x ≤ 23 by omega), Bool.and_self] at this

set_option maxRecDepth 100000 in
set_option maxHeartbeats 2000000 in
theorem rmake_missing (hA : RefAt B w rb rm ns L room) (hr : Ranked ns) (n : Nd) (hn : n.Ok) (h0 : 0 ≤ n.v) (h1 : n.v < 24) (h : hasB ns n.l = false ∨ hasB ns n.h = false) :
    Calls Tryd.prog 7 #[.pointer (some ⟨rb, 0, none⟩), n.val] w fun e w' => e = .returned (.tuple #[.int .i64 0, .int .i64 7]) ∧ Below w.heap.size w w' := by
  obtain ⟨x, lo, hi⟩ := n
  simp only at h h0 h1
  have hbn := below_new w (.cells #[.int .i64 x, .int .i64 lo, .int .i64 hi] 42)
  have HW := Lib.hid (within_in h0 h1 (w.alloc (.cells #[.int .i64 x, .int .i64 lo, .int .i64 hi] 42)))
  have HL := Lib.hid (rhas_any (hA.new hbn) hr lo hn.2.1)
  have HH : Hid (∀ X, Below (w.alloc (.cells #[.int .i64 x, .int .i64 lo, .int .i64 hi] 42)).heap.size (w.alloc (.cells #[.int .i64 x, .int .i64 lo, .int .i64 hi] 42)) X → Calls Tryd.prog 17 #[.pointer (some ⟨rb, 0, none⟩), .int .i64 hi] X fun e w' => e = .returned (.bool (hasB ns hi)) ∧ Below X.heap.size X w') := fun X hX => rhas_any ((hA.new hbn).new hX) hr hi hn.2.2
  obtain ⟨c0, c1, c2, -⟩ := cell3 w (.int .i64 x) (.int .i64 lo) (.int .i64 hi) 42
  have lN : w.heap.size < (w.alloc (.cells #[.int .i64 x, .int .i64 lo, .int .i64 hi] 42)).heap.size := by simp
  clear hA hn hr
  unfold Nd.val
  by_cases hlo : hasB ns lo = false
  · rw [hlo] at HL
    clear h hlo HH
    go_enter Tryd.func7, Tryd.ntmps7
    go_wp2_with fail
    refine HW.out.mono ?_
    rintro e wz ⟨rfl, rfl⟩
    go_wp2_with fail
    refine HL.out.mono ?_
    rintro e w1 ⟨rfl, hb1⟩
    have hbE := hbn.trans (hb1.mono (by omega))
    go_wp2
    go_ret2
    exact ⟨rfl, hbE⟩
  · have hlo' : hasB ns lo = true := by simpa using hlo
    have hhi : hasB ns hi = false := h.resolve_left hlo
    rw [hlo'] at HL
    rw [hhi] at HH
    clear h hlo hlo' hhi
    go_enter Tryd.func7, Tryd.ntmps7
    go_wp2_with fail
    refine HW.out.mono ?_
    rintro e wz ⟨rfl, rfl⟩
    go_wp2_with fail
    refine HL.out.mono ?_
    rintro e w1 ⟨rfl, hb1⟩
    have c21 := (hb1.cell (p := ⟨w.heap.size, 2, none⟩) lN).trans c2
    have hb1' := hbn.trans (hb1.mono (by omega))
    have HH1 := Lib.hid (HH.out w1 hb1)
    clear HL HH hb1
    go_wp2_with fail
    refine HH1.out.mono ?_
    rintro e w2 ⟨rfl, hb2⟩
    have hbE := hb1'.trans (hb2.mono hb1'.size)
    go_wp2
    go_ret2
    exact ⟨rfl, hbE⟩

/-- Up to the order of variables. -/
theorem rtop_grown (hA : RefAt B w rb rm ns L room) (hr : Ranked ns) (x : Int) (hx : I64 x) (d : Nat) (os : Array Obj) :
    Calls Tryd.prog 15 #[.pointer (some ⟨rb, 0, none⟩), .int .i64 x] (grow (redrawn w d) os) fun e w'' => e = .returned (.int .i64 (topOf ns x)) ∧ ∃ p : Regrown, w'' = grow (redrawn w p.d) p.os :=
  Calls.regrown_of (rtop_any (hA.new (below_regrown w d os)) hr x hx)

set_option maxRecDepth 100000 in
set_option maxHeartbeats 2000000 in
theorem rmake_order (hA : RefAt B w rb rm ns L room) (hr : Ranked ns) (n : Nd) (hn : n.Ok) (h0 : 0 ≤ n.v) (h1 : n.v < 24) (h2 : hasB ns n.l = true) (h3 : hasB ns n.h = true) (h : topOf ns n.l ≤ n.v ∨ topOf ns n.h ≤ n.v) :
    Calls Tryd.prog 7 #[.pointer (some ⟨rb, 0, none⟩), n.val] w fun e w' => e = .returned (.tuple #[.int .i64 0, .int .i64 10]) ∧ Below w.heap.size w w' := by
  obtain ⟨x, lo, hi⟩ := n
  simp only at h h0 h1 h2 h3
  have hbn := below_new w (.cells #[.int .i64 x, .int .i64 lo, .int .i64 hi] 42)
  have HW := Lib.hid (within_in h0 h1 (w.alloc (.cells #[.int .i64 x, .int .i64 lo, .int .i64 hi] 42)))
  have HL := Lib.hid (rhas_any (hA.new hbn) hr lo hn.2.1)
  have HH : Hid (∀ X, Below (w.alloc (.cells #[.int .i64 x, .int .i64 lo, .int .i64 hi] 42)).heap.size (w.alloc (.cells #[.int .i64 x, .int .i64 lo, .int .i64 hi] 42)) X → Calls Tryd.prog 17 #[.pointer (some ⟨rb, 0, none⟩), .int .i64 hi] X fun e w' => e = .returned (.bool (hasB ns hi)) ∧ Below X.heap.size X w') := fun X hX => rhas_any ((hA.new hbn).new hX) hr hi hn.2.2
  obtain ⟨c0, c1, c2, -⟩ := cell3 w (.int .i64 x) (.int .i64 lo) (.int .i64 hi) 42
  have lN : w.heap.size < (w.alloc (.cells #[.int .i64 x, .int .i64 lo, .int .i64 hi] 42)).heap.size := by simp
  have HA1 := Lib.hid (hA.new hbn)
  have HR := Lib.hid hr
  have HN := Lib.hid hn
  rw [h2] at HL
  rw [h3] at HH
  clear hA hn hr h2 h3
  unfold Nd.val
  go_enter Tryd.func7, Tryd.ntmps7
  go_wp2_with fail
  refine HW.out.mono ?_
  rintro e wz ⟨rfl, rfl⟩
  go_wp2_with fail
  refine HL.out.mono ?_
  rintro e w1 ⟨rfl, hb1⟩
  have c01 := (hb1.cell (p := ⟨w.heap.size, 0, none⟩) lN).trans c0
  have c11 := (hb1.cell (p := ⟨w.heap.size, 1, none⟩) lN).trans c1
  have c21 := (hb1.cell (p := ⟨w.heap.size, 2, none⟩) lN).trans c2
  have hb1' := hbn.trans (hb1.mono (by omega))
  have HH1 := Lib.hid (HH.out w1 hb1)
  have HA2 := Lib.hid (HA1.out.new hb1)
  have l1 := Nat.lt_of_lt_of_le lN hb1.size
  clear HL HH hb1 HA1
  go_wp2_with fail
  refine HH1.out.mono ?_
  rintro e w2 ⟨rfl, hb2⟩
  have k0 := fun d os => cell_regrown ((hb2.cell (p := ⟨w.heap.size, 0, none⟩) l1).trans c01) d os
  have k1 := fun d os => cell_regrown ((hb2.cell (p := ⟨w.heap.size, 1, none⟩) l1).trans c11) d os
  have k2 := fun d os => cell_regrown ((hb2.cell (p := ⟨w.heap.size, 2, none⟩) l1).trans c21) d os
  have hb2' := hb1'.trans (hb2.mono hb1'.size)
  have cA := fun d os => rtop_grown (HA2.out.new hb2) HR.out lo HN.out.2.1 d os
  have cB := fun d os => rtop_grown (HA2.out.new hb2) HR.out hi HN.out.2.2 d os
  clear hb2 HA2 HH1 c01 c11 c21 c0 c1 c2
  generalize topOf ns lo = tl at *
  generalize topOf ns hi = th at *
  by_cases hlo : tl ≤ x
  · have d1 : decide (tl ≤ x) = true := decide_eq_true hlo
    clear h
    go_wp2_with fail
    refine wp_region_quiet_below mixed (by kernel_rfl) ?_
    repeat (quiet_step (first | (go_at_call 15; with_reducible exact cA _ _) | (go_at_call 15; with_reducible exact cB _ _)))
    refine wpQuiet_nil ?_
    intro _ hw'
    obtain ⟨⟨dq, osq⟩, hw''⟩ := hw'
    subst hw''
    clear cA cB k0 k1 k2
    go_wp2
    go_ret2
    exact ⟨rfl, hb2'.trans ((below_regrown w2 dq osq).mono hb2'.size)⟩
  · have hhi : th ≤ x := h.resolve_left hlo
    have d1 : decide (tl ≤ x) = false := decide_eq_false hlo
    have d2 : decide (th ≤ x) = true := decide_eq_true hhi
    clear h
    go_wp2_with fail
    refine wp_region_quiet_below mixed (by kernel_rfl) ?_
    repeat (quiet_step (first | (go_at_call 15; with_reducible exact cA _ _) | (go_at_call 15; with_reducible exact cB _ _)))
    refine wpQuiet_nil ?_
    intro _ hw'
    obtain ⟨⟨dq, osq⟩, hw''⟩ := hw'
    subst hw''
    clear cA cB k0 k1 k2
    go_wp2
    go_ret2
    exact ⟨rfl, hb2'.trans ((below_regrown w2 dq osq).mono hb2'.size)⟩
end
end Go.Proofs.YtllobejhkajobaaDoor
