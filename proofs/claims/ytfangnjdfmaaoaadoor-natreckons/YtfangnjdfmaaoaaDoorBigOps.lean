/- The reference's numbers: sum, Cmp, Add, Sub, Mul, Lsh of numbers that are not below 0. -/
import Derived.Test.YtfangnjdfmaaoaaDoorBigSet
import Derived.Test.YtfangnjdfmaaoaaDoorBigCmp
import Derived.Test.YtfangnjdfmaaoaaDoorBigSub
import Derived.Test.YtfangnjdfmaaoaaDoorBigLeft
import Derived.Deep.RegionHeld3
import Derived.Lib.Hide
namespace Go.Proofs.YtfangnjdfmaaoaaDoor
open Go.RowKit Num Go.Sort Go.PlainAid

set_option maxRecDepth 100000 in
set_option maxHeartbeats 1000000 in
theorem sum_add {va vb : Value} {x y : Nat} {w : World} (ha : BigIs w va x) (hb : BigIs w vb y) (hx : x < 4294967296 ^ 1000) (hy : y < 4294967296 ^ 1000) :
    Calls Tryd.prog 47 #[.bool false, va, .bool false, vb] w fun e w' => ∃ v', e = .returned (.tuple #[.bool false, v']) ∧ BigIs w' v' (x + y) ∧ Below w.heap.size w w' := by
  obtain ⟨a1, k1, c1, rfl⟩ := ha.form
  obtain ⟨a2, k2, c2, rfl⟩ := hb.form
  have H := Lib.hid (badd_big ha hb hx hy)
  clear ha hb hx hy
  go_enter Tryd.func47, Tryd.ntmps47
  go_wp2_with fail
  refine H.out.mono ?_
  rintro e w1 ⟨v1, rfl, h1, hb1⟩
  obtain ⟨a3, k3, c3, rfl⟩ := h1.form
  go_wp2
  go_ret2
  exact ⟨_, rfl, h1, hb1⟩

set_option maxRecDepth 100000 in
set_option maxHeartbeats 1000000 in
theorem sum_sub {va vb : Value} {x y : Nat} {w : World} (ha : BigIs w va x) (hb : BigIs w vb y) (hx : x < 4294967296 ^ 1000) (hy : y ≤ x) :
    Calls Tryd.prog 47 #[.bool false, va, .bool true, vb] w fun e w' => ∃ v', e = .returned (.tuple #[.bool false, v']) ∧ BigIs w' v' (x - y) ∧ Below w.heap.size w w' := by
  obtain ⟨a1, k1, c1, rfl⟩ := ha.form
  obtain ⟨a2, k2, c2, rfl⟩ := hb.form
  have H := Lib.hid (bcmp_big ha hb hx (by omega))
  have H2 : Hid (∀ W, Below w.heap.size w W → Calls Tryd.prog 61 #[.slice a1 k1 c1, .slice a2 k2 c2] W fun e w' => ∃ v', e = .returned v' ∧ BigIs w' v' (x - y) ∧ Below W.heap.size W w') := fun W hW => bsub_big (ha.below hW) (hb.below hW) hx hy
  clear ha hb hx
  go_enter Tryd.func47, Tryd.ntmps47
  go_wp2_with fail
  refine H.out.mono ?_
  rintro e w1 ⟨rfl, hb1⟩
  have hc : ∃ c : Int, cmpN x y = c ∧ 0 ≤ c ∧ c ≤ 1 := by
    unfold cmpN; rw [if_neg (by omega)]; split <;> exact ⟨_, rfl, by omega, by omega⟩
  obtain ⟨c, hc, hc0, hc1⟩ := hc
  rw [hc]
  clear hc hy H
  go_wp2_with fail
  refine (H2.out _ hb1).mono ?_
  rintro e w2 ⟨v2, rfl, h2, hb2⟩
  obtain ⟨a3, k3, c3, rfl⟩ := h2.form
  go_wp2
  go_ret2
  exact ⟨_, rfl, h2, hb1.trans (hb2.mono hb1.size)⟩

theorem left_big {va : Value} {x n : Nat} {w : World} (ha : BigIs w va x) (hx : x < 4294967296 ^ 1000) (hn : n ≤ 1000) (h0 : x ≠ 0) :
    Calls Tryd.prog 49 #[va, .int .u64 (n : Int)] w fun e w' => ∃ v', e = .returned v' ∧ BigIs w' v' (x * 2 ^ n) ∧ Below w.heap.size w w' := by
  obtain ⟨a, h1, h2, h3, h4⟩ := ha.len hx
  refine (left_any va a n w h1 h2.small (by omega) hn (fun h => h0 (by rw [← h3]; exact (val_zero (by omega) h2).2 h))).mono ?_
  rintro e w' ⟨v', he, ds, d1, d2, d3, d4⟩
  exact ⟨v', he, ⟨ds, d1, d2, by rw [d3, h3]⟩, d4⟩

set_option maxRecDepth 100000 in
set_option maxHeartbeats 1000000 in
theorem left_zero {va : Value} {n : Nat} {w : World} (ha : BigIs w va 0) :
    Calls Tryd.prog 49 #[va, .int .u64 (n : Int)] w fun e w' => ∃ v', e = .returned v' ∧ BigIs w' v' 0 ∧ Below w.heap.size w w' := by
  obtain ⟨ds, ⟨a, c, rfl, -⟩, h2, h3⟩ := ha
  have hl := (val_zero (by omega) h2).1 h3
  rw [hl]
  clear hl h2 h3
  go_enter Tryd.func49, Tryd.ntmps49
  go_wp2
  go_ret
  exact ⟨_, rfl, BigIs.nil _, Below.refl _ _⟩

theorem left_all {va : Value} {x n : Nat} {w : World} (ha : BigIs w va x) (hx : x < 4294967296 ^ 1000) (hn : n ≤ 1000) :
    Calls Tryd.prog 49 #[va, .int .u64 (n : Int)] w fun e w' => ∃ v', e = .returned v' ∧ BigIs w' v' (x * 2 ^ n) ∧ Below w.heap.size w w' := by
  by_cases h : x = 0
  · subst h; rw [Nat.zero_mul]; exact left_zero ha
  · exact left_big ha hx hn h

set_option maxRecDepth 100000 in
set_option maxHeartbeats 1000000 in
theorem icmp_big {p q x y : Nat} {w : World} (hp : IntIs w p x) (hq : IntIs w q y) (hx : x < 4294967296 ^ 1000) (hy : y < 4294967296 ^ 1000) :
    Calls Tryd.prog 18 #[.pointer (some ⟨p, 0, none⟩), .pointer (some ⟨q, 0, none⟩)] w fun e w' => e = .returned (.int .i64 (cmpN x y)) ∧ Below w.heap.size w w' := by
  obtain ⟨p0, p1, vp, p2, p3⟩ := hp
  obtain ⟨q0, q1, vq, q2, q3⟩ := hq
  obtain ⟨a1, k1, c1, rfl⟩ := p3.form
  obtain ⟨a2, k2, c2, rfl⟩ := q3.form
  have H : Hid (∀ W, Below w.heap.size w W → Calls Tryd.prog 45 #[.slice a1 k1 c1, .slice a2 k2 c2] W fun e w' => e = .returned (.int .i64 (cmpN x y)) ∧ Below W.heap.size W w') := fun W hW => bcmp_big (p3.below hW) (q3.below hW) hx hy
  generalize cmpN x y = c at *
  clear hx hy p3 q3
  go_enter Tryd.func18, Tryd.ntmps18
  go_wp2_with fail
  have SC : Hid (∀ X : World, Below w.heap.size w X → (Below w.heap.size w X ∧ X.cell? ⟨p, 0, none⟩ = some (.bool false) ∧ X.cell? ⟨q, 0, none⟩ = some (.bool false) ∧ X.cell? ⟨p, 1, none⟩ = some (.slice a1 k1 c1) ∧ X.cell? ⟨q, 1, none⟩ = some (.slice a2 k2 c2))) := fun X h =>
    ⟨h, (h.cell (p := ⟨p, 0, none⟩) p0).trans p1, (h.cell (p := ⟨q, 0, none⟩) q0).trans q1, (h.cell (p := ⟨p, 1, none⟩) p0).trans p2, (h.cell (p := ⟨q, 1, none⟩) q0).trans q2⟩
  have hS0 := SC.out _ (Below.refl w.heap.size w).drew
  go_region_held3 (fun w' => Below w.heap.size w w' ∧ w'.cell? ⟨p, 0, none⟩ = some (.bool false) ∧ w'.cell? ⟨q, 0, none⟩ = some (.bool false) ∧ w'.cell? ⟨p, 1, none⟩ = some (.slice a1 k1 c1) ∧ w'.cell? ⟨q, 1, none⟩ = some (.slice a2 k2 c2)) (first | assumption | exact hS0) (first | fail)
  go_wp2_with fail
  have hS1 := SC.out _ hS0.1.drew
  go_region_held3 (fun w' => Below w.heap.size w w' ∧ w'.cell? ⟨p, 0, none⟩ = some (.bool false) ∧ w'.cell? ⟨q, 0, none⟩ = some (.bool false) ∧ w'.cell? ⟨p, 1, none⟩ = some (.slice a1 k1 c1) ∧ w'.cell? ⟨q, 1, none⟩ = some (.slice a2 k2 c2)) (first | assumption | exact hS1)
    (first
      | (go_at_call 45; refine (H.out _ hS1.1).mono ?_; rintro e w1 ⟨rfl, hb1⟩; have hB1 := hS1.1.trans (hb1.mono hS1.1.size); have hS2 := SC.out _ hB1))
  obtain ⟨-, q1, -⟩ := hS2
  go_wp2
  go_ret
  exact ⟨rfl, hB1⟩

set_option maxRecDepth 100000 in
set_option maxHeartbeats 1000000 in
theorem iadd_big {z p q x y : Nat} {w : World} (hp : IntIs w p x) (hq : IntIs w q y) (hx : x < 4294967296 ^ 1000) (hy : y < 4294967296 ^ 1000) (hpz : p < z) (hqz : q < z) (hz : z < w.heap.size) (h0 : w.cell? ⟨z, 0, none⟩ = some (.bool false)) (h1 : w.cell? ⟨z, 1, none⟩ = some (.slice none 0 0)) (f0 : w.frozen? ⟨z, 0, none⟩ = false) (f1 : w.frozen? ⟨z, 1, none⟩ = false) :
    Calls Tryd.prog 23 #[.pointer (some ⟨z, 0, none⟩), .pointer (some ⟨p, 0, none⟩), .pointer (some ⟨q, 0, none⟩)] w fun e w' => e = .returned (.pointer (some ⟨z, 0, none⟩)) ∧ IntIs w' z (x + y) ∧ Below z w w' := by
  obtain ⟨p0, p1, vp, p2, p3⟩ := hp
  obtain ⟨q0, q1, vq, q2, q3⟩ := hq
  obtain ⟨a1, k1, c1, rfl⟩ := p3.form
  obtain ⟨a2, k2, c2, rfl⟩ := q3.form
  have H : Hid (∀ W, Below w.heap.size w W → Calls Tryd.prog 47 #[.bool false, .slice a1 k1 c1, .bool false, .slice a2 k2 c2] W fun e w' => ∃ v', e = .returned (.tuple #[.bool false, v']) ∧ BigIs w' v' (x + y) ∧ Below W.heap.size W w') := fun W hW => sum_add (p3.below hW) (q3.below hW) hx hy
  clear hx hy p3 q3
  have hwd : Below w.heap.size w w.drew := (Below.refl w.heap.size w).drew
  have SC : Hid (∀ X : World, Below z w X → (Below z w X ∧ X.cell? ⟨p, 0, none⟩ = some (.bool false) ∧ X.cell? ⟨q, 0, none⟩ = some (.bool false) ∧ X.cell? ⟨p, 1, none⟩ = some (.slice a1 k1 c1) ∧ X.cell? ⟨q, 1, none⟩ = some (.slice a2 k2 c2))) := fun X h =>
    ⟨h, (h.cell (p := ⟨p, 0, none⟩) hpz).trans p1, (h.cell (p := ⟨q, 0, none⟩) hqz).trans q1, (h.cell (p := ⟨p, 1, none⟩) hpz).trans p2, (h.cell (p := ⟨q, 1, none⟩) hqz).trans q2⟩
  go_enter Tryd.func23, Tryd.ntmps23
  go_wp2_with fail
  have hS0 := SC.out _ (hwd.mono (by omega))
  clear p1 p2 q1 q2
  go_region_held3 (fun w' => Below z w w' ∧ w'.cell? ⟨p, 0, none⟩ = some (.bool false) ∧ w'.cell? ⟨q, 0, none⟩ = some (.bool false) ∧ w'.cell? ⟨p, 1, none⟩ = some (.slice a1 k1 c1) ∧ w'.cell? ⟨q, 1, none⟩ = some (.slice a2 k2 c2)) (first | assumption | exact hS0)
    (first
      | (go_at_call 47; refine (H.out _ hwd).mono ?_; rintro e w1 ⟨v1, rfl, hn1, hb1⟩; obtain ⟨a3, k3, c3, rfl⟩ := hn1.form; have hB1 := hwd.trans (hb1.mono hwd.size); have hS1 := SC.out _ (hB1.mono (by omega)))
      | (go_at_call 46; refine (give_any z _ _ _ _ _ _ _ (Nat.lt_of_lt_of_le hz hB1.size) hn1 ((hB1.cell (p := ⟨z, 0, none⟩) hz).trans h0) ((hB1.cell (p := ⟨z, 1, none⟩) hz).trans h1) ((hB1.frozen (p := ⟨z, 0, none⟩) hz).trans f0) ((hB1.frozen (p := ⟨z, 1, none⟩) hz).trans f1)).mono ?_; rintro e w2 ⟨rfl, hn2, hb2⟩; have hS2 := SC.out _ (hS1.1.trans hb2)))
  go_wp2
  go_ret
  exact ⟨rfl, hn2, hS2.1⟩

set_option maxRecDepth 100000 in
set_option maxHeartbeats 1000000 in
theorem isub_big {z p q x y : Nat} {w : World} (hp : IntIs w p x) (hq : IntIs w q y) (hx : x < 4294967296 ^ 1000) (hy : y ≤ x) (hpz : p < z) (hqz : q < z) (hz : z < w.heap.size) (h0 : w.cell? ⟨z, 0, none⟩ = some (.bool false)) (h1 : w.cell? ⟨z, 1, none⟩ = some (.slice none 0 0)) (f0 : w.frozen? ⟨z, 0, none⟩ = false) (f1 : w.frozen? ⟨z, 1, none⟩ = false) :
    Calls Tryd.prog 19 #[.pointer (some ⟨z, 0, none⟩), .pointer (some ⟨p, 0, none⟩), .pointer (some ⟨q, 0, none⟩)] w fun e w' => e = .returned (.pointer (some ⟨z, 0, none⟩)) ∧ IntIs w' z (x - y) ∧ Below z w w' := by
  obtain ⟨p0, p1, vp, p2, p3⟩ := hp
  obtain ⟨q0, q1, vq, q2, q3⟩ := hq
  obtain ⟨a1, k1, c1, rfl⟩ := p3.form
  obtain ⟨a2, k2, c2, rfl⟩ := q3.form
  have H : Hid (∀ W, Below w.heap.size w W → Calls Tryd.prog 47 #[.bool false, .slice a1 k1 c1, .bool true, .slice a2 k2 c2] W fun e w' => ∃ v', e = .returned (.tuple #[.bool false, v']) ∧ BigIs w' v' (x - y) ∧ Below W.heap.size W w') := fun W hW => sum_sub (p3.below hW) (q3.below hW) hx hy
  clear hx hy p3 q3
  have hwd : Below w.heap.size w w.drew := (Below.refl w.heap.size w).drew
  have SC : Hid (∀ X : World, Below z w X → (Below z w X ∧ X.cell? ⟨p, 0, none⟩ = some (.bool false) ∧ X.cell? ⟨q, 0, none⟩ = some (.bool false) ∧ X.cell? ⟨p, 1, none⟩ = some (.slice a1 k1 c1) ∧ X.cell? ⟨q, 1, none⟩ = some (.slice a2 k2 c2))) := fun X h =>
    ⟨h, (h.cell (p := ⟨p, 0, none⟩) hpz).trans p1, (h.cell (p := ⟨q, 0, none⟩) hqz).trans q1, (h.cell (p := ⟨p, 1, none⟩) hpz).trans p2, (h.cell (p := ⟨q, 1, none⟩) hqz).trans q2⟩
  go_enter Tryd.func19, Tryd.ntmps19
  go_wp2_with fail
  have hS0 := SC.out _ (hwd.mono (by omega))
  clear p1 p2 q1 q2
  go_region_held3 (fun w' => Below z w w' ∧ w'.cell? ⟨p, 0, none⟩ = some (.bool false) ∧ w'.cell? ⟨q, 0, none⟩ = some (.bool false) ∧ w'.cell? ⟨p, 1, none⟩ = some (.slice a1 k1 c1) ∧ w'.cell? ⟨q, 1, none⟩ = some (.slice a2 k2 c2)) (first | assumption | exact hS0)
    (first
      | (go_at_call 47; refine (H.out _ hwd).mono ?_; rintro e w1 ⟨v1, rfl, hn1, hb1⟩; obtain ⟨a3, k3, c3, rfl⟩ := hn1.form; have hB1 := hwd.trans (hb1.mono hwd.size); have hS1 := SC.out _ (hB1.mono (by omega)))
      | (go_at_call 46; refine (give_any z _ _ _ _ _ _ _ (Nat.lt_of_lt_of_le hz hB1.size) hn1 ((hB1.cell (p := ⟨z, 0, none⟩) hz).trans h0) ((hB1.cell (p := ⟨z, 1, none⟩) hz).trans h1) ((hB1.frozen (p := ⟨z, 0, none⟩) hz).trans f0) ((hB1.frozen (p := ⟨z, 1, none⟩) hz).trans f1)).mono ?_; rintro e w2 ⟨rfl, hn2, hb2⟩; have hS2 := SC.out _ (hS1.1.trans hb2)))
  go_wp2
  go_ret
  exact ⟨rfl, hn2, hS2.1⟩

set_option maxRecDepth 100000 in
set_option maxHeartbeats 1000000 in
theorem imul_big {z p q x y : Nat} {w : World} (hp : IntIs w p x) (hq : IntIs w q y) (hx : x < 4294967296 ^ 1000) (hy : y < 4294967296 ^ 1000) (hpz : p < z) (hqz : q < z) (hz : z < w.heap.size) (h0 : w.cell? ⟨z, 0, none⟩ = some (.bool false)) (h1 : w.cell? ⟨z, 1, none⟩ = some (.slice none 0 0)) (f0 : w.frozen? ⟨z, 0, none⟩ = false) (f1 : w.frozen? ⟨z, 1, none⟩ = false) :
    Calls Tryd.prog 25 #[.pointer (some ⟨z, 0, none⟩), .pointer (some ⟨p, 0, none⟩), .pointer (some ⟨q, 0, none⟩)] w fun e w' => e = .returned (.pointer (some ⟨z, 0, none⟩)) ∧ IntIs w' z (x * y) ∧ Below z w w' := by
  obtain ⟨p0, p1, vp, p2, p3⟩ := hp
  obtain ⟨q0, q1, vq, q2, q3⟩ := hq
  obtain ⟨a1, k1, c1, rfl⟩ := p3.form
  obtain ⟨a2, k2, c2, rfl⟩ := q3.form
  have H : Hid (∀ W, Below w.heap.size w W → Calls Tryd.prog 50 #[.slice a1 k1 c1, .slice a2 k2 c2] W fun e w' => ∃ v', e = .returned v' ∧ BigIs w' v' (x * y) ∧ Below W.heap.size W w') := fun W hW => bmul_big (p3.below hW) (q3.below hW) hx hy
  clear hx hy p3 q3
  have hwd : Below w.heap.size w w.drew := (Below.refl w.heap.size w).drew
  have SC : Hid (∀ X : World, Below z w X → (Below z w X ∧ X.cell? ⟨p, 0, none⟩ = some (.bool false) ∧ X.cell? ⟨q, 0, none⟩ = some (.bool false) ∧ X.cell? ⟨p, 1, none⟩ = some (.slice a1 k1 c1) ∧ X.cell? ⟨q, 1, none⟩ = some (.slice a2 k2 c2))) := fun X h =>
    ⟨h, (h.cell (p := ⟨p, 0, none⟩) hpz).trans p1, (h.cell (p := ⟨q, 0, none⟩) hqz).trans q1, (h.cell (p := ⟨p, 1, none⟩) hpz).trans p2, (h.cell (p := ⟨q, 1, none⟩) hqz).trans q2⟩
  go_enter Tryd.func25, Tryd.ntmps25
  go_wp2_with fail
  have hS0 := SC.out _ (hwd.mono (by omega))
  clear p1 p2 q1 q2
  go_region_held3 (fun w' => Below z w w' ∧ w'.cell? ⟨p, 0, none⟩ = some (.bool false) ∧ w'.cell? ⟨q, 0, none⟩ = some (.bool false) ∧ w'.cell? ⟨p, 1, none⟩ = some (.slice a1 k1 c1) ∧ w'.cell? ⟨q, 1, none⟩ = some (.slice a2 k2 c2)) (first | assumption | exact hS0)
    (first
      | (go_at_call 50; refine (H.out _ hwd).mono ?_; rintro e w1 ⟨v1, rfl, hn1, hb1⟩; obtain ⟨a3, k3, c3, rfl⟩ := hn1.form; have hB1 := hwd.trans (hb1.mono hwd.size); have hS1 := SC.out _ (hB1.mono (by omega)))
      | (go_at_call 46; refine (give_any z _ _ _ _ _ _ _ (Nat.lt_of_lt_of_le hz hB1.size) hn1 ((hB1.cell (p := ⟨z, 0, none⟩) hz).trans h0) ((hB1.cell (p := ⟨z, 1, none⟩) hz).trans h1) ((hB1.frozen (p := ⟨z, 0, none⟩) hz).trans f0) ((hB1.frozen (p := ⟨z, 1, none⟩) hz).trans f1)).mono ?_; rintro e w2 ⟨rfl, hn2, hb2⟩; have hS2 := SC.out _ (hS1.1.trans hb2)))
  go_wp2
  go_ret
  exact ⟨rfl, hn2, hS2.1⟩

set_option maxRecDepth 100000 in
set_option maxHeartbeats 1000000 in
theorem ilsh_big {z p x n : Nat} {w : World} (hp : IntIs w p x) (hx : x < 4294967296 ^ 1000) (hn : n ≤ 1000) (hpz : p < z) (hz : z < w.heap.size) (h0 : w.cell? ⟨z, 0, none⟩ = some (.bool false)) (h1 : w.cell? ⟨z, 1, none⟩ = some (.slice none 0 0)) (f0 : w.frozen? ⟨z, 0, none⟩ = false) (f1 : w.frozen? ⟨z, 1, none⟩ = false) :
    Calls Tryd.prog 21 #[.pointer (some ⟨z, 0, none⟩), .pointer (some ⟨p, 0, none⟩), .int .u64 (n : Int)] w fun e w' => e = .returned (.pointer (some ⟨z, 0, none⟩)) ∧ IntIs w' z (x * 2 ^ n) ∧ Below z w w' := by
  obtain ⟨p0, p1, vp, p2, p3⟩ := hp
  obtain ⟨a1, k1, c1, rfl⟩ := p3.form
  have H : Hid (∀ W, Below w.heap.size w W → Calls Tryd.prog 49 #[.slice a1 k1 c1, .int .u64 (n : Int)] W fun e w' => ∃ v', e = .returned v' ∧ BigIs w' v' (x * 2 ^ n) ∧ Below W.heap.size W w') := fun W hW => left_all (p3.below hW) hx hn
  clear hx p3
  have hwd : Below w.heap.size w w.drew := (Below.refl w.heap.size w).drew
  have SC : Hid (∀ X : World, Below z w X → (Below z w X ∧ X.cell? ⟨p, 0, none⟩ = some (.bool false) ∧ X.cell? ⟨p, 1, none⟩ = some (.slice a1 k1 c1))) := fun X h =>
    ⟨h, (h.cell (p := ⟨p, 0, none⟩) hpz).trans p1, (h.cell (p := ⟨p, 1, none⟩) hpz).trans p2⟩
  go_enter Tryd.func21, Tryd.ntmps21
  go_wp2_with fail
  have hS0 := SC.out _ (hwd.mono (by omega))
  clear p1 p2
  go_region_held3 (fun w' => Below z w w' ∧ w'.cell? ⟨p, 0, none⟩ = some (.bool false) ∧ w'.cell? ⟨p, 1, none⟩ = some (.slice a1 k1 c1)) (first | assumption | exact hS0)
    (first
      | (go_at_call 49; refine (H.out _ hwd).mono ?_; rintro e w1 ⟨v1, rfl, hn1, hb1⟩; obtain ⟨a3, k3, c3, rfl⟩ := hn1.form; have hB1 := hwd.trans (hb1.mono hwd.size); have hS1 := SC.out _ (hB1.mono (by omega)))
      | (go_at_call 46; refine (give_any z _ _ _ _ _ _ _ (Nat.lt_of_lt_of_le hz hB1.size) hn1 ((hB1.cell (p := ⟨z, 0, none⟩) hz).trans h0) ((hB1.cell (p := ⟨z, 1, none⟩) hz).trans h1) ((hB1.frozen (p := ⟨z, 0, none⟩) hz).trans f0) ((hB1.frozen (p := ⟨z, 1, none⟩) hz).trans f1)).mono ?_; rintro e w2 ⟨rfl, hn2, hb2⟩; have hS2 := SC.out _ (hS1.1.trans hb2)))
  go_wp2
  go_ret
  exact ⟨rfl, hn2, hS2.1⟩
end Go.Proofs.YtfangnjdfmaaoaaDoor
