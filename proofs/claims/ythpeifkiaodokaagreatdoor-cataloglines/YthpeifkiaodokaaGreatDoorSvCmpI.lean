/- Cmp of any two versions. -/
import Derived.Test.YthpeifkiaodokaaGreatDoorSvSigned
import Derived.Test.YthpeifkiaodokaaGreatDoorSvBlk
namespace Go.Proofs.YthpeifkiaodokaaGreatDoor
open Go.RowKit Sv

def cmpI (x y : Int) : Int := if x < y then -1 else if y < x then 1 else 0
set_option maxRecDepth 100000 in
theorem nan_any (x : Int) (w : World) : Calls Tryz.prog 167 #[.int .i64 x] w fun e w' => e = .returned (.bool false) ∧ w' = w := by
  go_enter Tryz.func167, Tryz.ntmps167
  go_wp2
  go_ret
  exact ⟨rfl, rfl⟩
set_option maxRecDepth 100000 in
theorem cmp_any (x y : Int) (w : World) : Calls Tryz.prog 136 #[.int .i64 x, .int .i64 y] w fun e w' => e = .returned (.int .i64 (cmpI x y)) ∧ w' = w := by
  have H1 : Hid (∀ W, Calls Tryz.prog 167 #[.int .i64 x] W fun e w' => e = .returned (.bool false) ∧ w' = W) := fun W => nan_any x W
  have H2 : Hid (∀ W, Calls Tryz.prog 167 #[.int .i64 y] W fun e w' => e = .returned (.bool false) ∧ w' = W) := fun W => nan_any y W
  by_cases h : x < y
  · have HC : Hid (cmpI x y = -1) := by show _ = _; unfold cmpI; rw [if_pos h]
    go_enter Tryz.func136, Tryz.ntmps136
    go_wp2_with fail
    refine (H1.out _).mono ?_
    rintro e w1 ⟨rfl, rfl⟩
    go_wp2_with fail
    refine (H2.out _).mono ?_
    rintro e w2 ⟨rfl, rfl⟩
    go_wp2
    go_ret
    exact ⟨by rw [HC.out]; rfl, rfl⟩
  · by_cases h' : y < x
    · have HC : Hid (cmpI x y = 1) := by show _ = _; unfold cmpI; rw [if_neg h, if_pos h']
      go_enter Tryz.func136, Tryz.ntmps136
      go_wp2_with fail
      refine (H1.out _).mono ?_
      rintro e w1 ⟨rfl, rfl⟩
      go_wp2_with fail
      refine (H2.out _).mono ?_
      rintro e w2 ⟨rfl, rfl⟩
      go_wp2
      go_ret
      exact ⟨by rw [HC.out]; rfl, rfl⟩
    · have HC : Hid (cmpI x y = 0) := by show _ = _; unfold cmpI; rw [if_neg h, if_neg h']
      go_enter Tryz.func136, Tryz.ntmps136
      go_wp2_with fail
      refine (H1.out _).mono ?_
      rintro e w1 ⟨rfl, rfl⟩
      go_wp2_with fail
      refine (H2.out _).mono ?_
      rintro e w2 ⟨rfl, rfl⟩
      go_wp2
      go_ret
      exact ⟨by rw [HC.out]; rfl, rfl⟩

/-- Three parts against three. -/
def cmp3 (x y : Nat → Int) : Nat → Int
  | 0 => 0
  | n + 1 => if cmpI (x (2 - n)) (y (2 - n)) ≠ 0 then cmpI (x (2 - n)) (y (2 - n)) else cmp3 x y n
set_option maxRecDepth 100000 in
set_option maxHeartbeats 1000000 in
theorem compare_any (x y : Nat → Int) (bx bv : Nat) (w : World) (lx : bx < w.heap.size) (ly : bv < w.heap.size) (hx : ∀ j, j < 3 → w.cell? ⟨bx, j, none⟩ = some (.int .i64 (x j))) (hy : ∀ j, j < 3 → w.cell? ⟨bv, j, none⟩ = some (.int .i64 (y j))) :
    Calls Tryz.prog 101 #[.slice (some ⟨bx, 0, none⟩) 3 3, .slice (some ⟨bv, 0, none⟩) 3 3] w fun e w' => e = .returned (.int .i64 (cmp3 x y 3)) ∧ Below w.heap.size w w' := by
  have HC : Hid (∀ X Y W, Calls Tryz.prog 136 #[.int .i64 X, .int .i64 Y] W fun e w' => e = .returned (.int .i64 (cmpI X Y)) ∧ w' = W) := fun X Y W => cmp_any X Y W
  have hcell : Hid ((∀ W, Below w.heap.size w W → ∀ j, j < 3 → W.cell? ⟨bx, j, none⟩ = some (.int .i64 (x j))) ∧ (∀ W, Below w.heap.size w W → ∀ j, j < 3 → W.cell? ⟨bv, j, none⟩ = some (.int .i64 (y j)))) := ⟨fun W hb j hj => (hb.cell (p := ⟨bx, j, none⟩) lx).trans (hx j hj), fun W hb j hj => (hb.cell (p := ⟨bv, j, none⟩) ly).trans (hy j hj)⟩
  clear hx hy lx ly
  go_enter Tryz.func101, Tryz.ntmps101
  go_wp2_with fail
  go_loopw [11] (fun iV wr => ∃ k : Nat, k ≤ 3 ∧ iV = .int .i64 (k : Int) ∧ cmp3 x y 3 = cmp3 x y (3 - k) ∧ Below w.heap.size w wr) (fun iV _ => 3 - (intOf iV).toNat)
  case atStart => exact ⟨0, by omega, rfl, rfl, Below.refl _ _⟩
  case round =>
    obtain ⟨k, hk, rfl, heq, hbr⟩ := hrel
    have HE := Lib.hid heq
    have HBR := Lib.hid hbr
    clear heq hbr
    by_cases hlt : k < 3
    · have c0 := hcell.out.1 _ HBR.out k hlt
      have c1 := hcell.out.2 _ HBR.out k hlt
      have HS : Hid (cmp3 x y (3 - k) = if cmpI (x k) (y k) ≠ 0 then cmpI (x k) (y k) else cmp3 x y (3 - (k + 1))) := by
        show _ = _
        match k, hlt with
        | 0, _ => rfl
        | 1, _ => rfl
        | 2, _ => rfl
      generalize x k = X at *
      generalize y k = Y at *
      go_wp2_with fail
      refine (HC.out _ _ _).mono ?_
      rintro e w1 ⟨rfl, rfl⟩
      generalize cmpI X Y = Z at *
      by_cases hz : Z = 0
      · subst hz
        go_wp2
        go_roundw
        case rel => exact ⟨k + 1, by omega, by go_num, by rw [HE.out, HS.out, if_neg (by simp)], HBR.out⟩
        case measure => simp [intOf]; omega
      · have hz2 : (Z == 0) = false := by rw [beq_eq_false_iff_ne]; exact hz
        go_wp2
        go_ret
        exact ⟨by rw [HE.out, HS.out, if_pos hz]; rfl, HBR.out⟩
    · obtain rfl : k = 3 := by omega
      go_wp2
      go_ret
      exact ⟨by rw [HE.out]; rfl, HBR.out⟩

/-- Two versions' numbers. -/
def vI (a b c : Nat) (j : Nat) : Int := if j = 0 then (a : Int) else if j = 1 then (b : Int) else (c : Int)
theorem cmp3_num {a b c d e f : Nat} (hb : b ≤ 999) (hc : c ≤ 999) (he : e ≤ 999) (hf : f ≤ 999) : cmp3 (vI a b c) (vI d e f) 3 = cmpI (numN a b c : Nat) (numN d e f : Nat) := by
  show (if cmpI (a : Int) (d : Int) ≠ 0 then cmpI (a : Int) (d : Int) else if cmpI (b : Int) (e : Int) ≠ 0 then cmpI (b : Int) (e : Int) else if cmpI (c : Int) (f : Int) ≠ 0 then cmpI (c : Int) (f : Int) else 0) = _
  unfold cmpI numN
  repeat' split
  all_goals first | omega | (exfalso; omega) | rfl

set_option maxRecDepth 100000 in
set_option maxHeartbeats 1000000 in
theorem cmpv_any (a b c d e f : Nat) (hb : b ≤ 999) (hc : c ≤ 999) (he : e ≤ 999) (hf : f ≤ 999) (w : World) :
    Calls Tryz.prog 47 #[.agg #[.int .i64 (a : Int), .int .i64 (b : Int), .int .i64 (c : Int)], .agg #[.int .i64 (d : Int), .int .i64 (e : Int), .int .i64 (f : Int)]] w fun r w' => r = .returned (.int .i64 (cmpI (numN a b c : Nat) (numN d e f : Nat))) ∧ Below w.heap.size w w' := by
  rw [← cmp3_num hb hc he hf]
  clear hb hc he hf
  have kv := (Blk.new w 42 #[.int .i64 (a : Int), .int .i64 (b : Int), .int .i64 (c : Int)]).alloc (.cells #[.int .i64 (d : Int), .int .i64 (e : Int), .int .i64 (f : Int)] 42)
  have kw := Blk.new (w.alloc (.cells #[.int .i64 (a : Int), .int .i64 (b : Int), .int .i64 (c : Int)] 42)) 42 #[.int .i64 (d : Int), .int .i64 (e : Int), .int .i64 (f : Int)]
  rw [World.size_alloc] at kw
  have hB0 : Below w.heap.size w ((w.alloc (.cells #[.int .i64 (a : Int), .int .i64 (b : Int), .int .i64 (c : Int)] 42)).alloc (.cells #[.int .i64 (d : Int), .int .i64 (e : Int), .int .i64 (f : Int)] 42)) := ((Below.refl _ w).alloc (Nat.le_refl _) _).alloc (by simp only [World.size_alloc]; omega) _
  have HX : Hid (Calls Tryz.prog 101 #[.slice (some ⟨w.heap.size, 0, none⟩) 3 3, .slice (some ⟨w.heap.size + 1, 0, none⟩) 3 3] ((w.alloc (.cells #[.int .i64 (a : Int), .int .i64 (b : Int), .int .i64 (c : Int)] 42)).alloc (.cells #[.int .i64 (d : Int), .int .i64 (e : Int), .int .i64 (f : Int)] 42)).drew fun r w' => r = .returned (.int .i64 (cmp3 (vI a b c) (vI d e f) 3)) ∧ Below w.heap.size w w') := by
    generalize (w.alloc (.cells #[.int .i64 (a : Int), .int .i64 (b : Int), .int .i64 (c : Int)] 42)).alloc (.cells #[.int .i64 (d : Int), .int .i64 (e : Int), .int .i64 (f : Int)] 42) = W0 at *
    have hd : Below W0.heap.size W0 W0.drew := (Below.refl _ _).drew
    have kv2 := kv.below hd kv.lt
    have kw2 := kw.below hd kw.lt
    refine (compare_any (vI a b c) (vI d e f) w.heap.size (w.heap.size + 1) W0.drew kv2.lt kw2.lt ?_ ?_).mono ?_
    · intro j hj
      rw [kv2.cell j]
      match j, hj with
      | 0, _ => rfl
      | 1, _ => rfl
      | 2, _ => rfl
    · intro j hj
      rw [kw2.cell j]
      match j, hj with
      | 0, _ => rfl
      | 1, _ => rfl
      | 2, _ => rfl
    · rintro r w1 ⟨h1, h2⟩
      have hb : Below w.heap.size w W0.drew := hB0.drew
      exact ⟨h1, hb.trans (h2.mono hb.size)⟩
  clear kv kw hB0
  go_enter Tryz.func47, Tryz.ntmps47
  go_wp2_with fail
  go_region_held3 (fun _ => True) (exact trivial)
    (((with_reducible refine HX.out.mono ?_); rintro r w1 ⟨rfl, hb1⟩; have HB1 := Lib.hid hb1; clear hb1))
  go_wp2
  go_ret
  exact ⟨rfl, HB1.out⟩
end Go.Proofs.YthpeifkiaodokaaGreatDoor

namespace Go.Proofs.YthpeifkiaodokaaGreatDoor
open Go.RowKit Sv

def tI (a b c : Int) (j : Nat) : Int := if j = 0 then a else if j = 1 then b else c
set_option maxRecDepth 100000 in
set_option maxHeartbeats 1000000 in
theorem cmpw_any (a b c d e f : Int) (w : World) :
    Calls Tryz.prog 47 #[.agg #[.int .i64 a, .int .i64 b, .int .i64 c], .agg #[.int .i64 d, .int .i64 e, .int .i64 f]] w fun r w' => r = .returned (.int .i64 (cmp3 (tI a b c) (tI d e f) 3)) ∧ Below w.heap.size w w' := by
  have kv := (Blk.new w 42 #[.int .i64 a, .int .i64 b, .int .i64 c]).alloc (.cells #[.int .i64 d, .int .i64 e, .int .i64 f] 42)
  have kw := Blk.new (w.alloc (.cells #[.int .i64 a, .int .i64 b, .int .i64 c] 42)) 42 #[.int .i64 d, .int .i64 e, .int .i64 f]
  rw [World.size_alloc] at kw
  have hB0 : Below w.heap.size w ((w.alloc (.cells #[.int .i64 a, .int .i64 b, .int .i64 c] 42)).alloc (.cells #[.int .i64 d, .int .i64 e, .int .i64 f] 42)) := ((Below.refl _ w).alloc (Nat.le_refl _) _).alloc (by simp only [World.size_alloc]; omega) _
  have HX : Hid (Calls Tryz.prog 101 #[.slice (some ⟨w.heap.size, 0, none⟩) 3 3, .slice (some ⟨w.heap.size + 1, 0, none⟩) 3 3] ((w.alloc (.cells #[.int .i64 a, .int .i64 b, .int .i64 c] 42)).alloc (.cells #[.int .i64 d, .int .i64 e, .int .i64 f] 42)).drew fun r w' => r = .returned (.int .i64 (cmp3 (tI a b c) (tI d e f) 3)) ∧ Below w.heap.size w w') := by
    generalize (w.alloc (.cells #[.int .i64 a, .int .i64 b, .int .i64 c] 42)).alloc (.cells #[.int .i64 d, .int .i64 e, .int .i64 f] 42) = W0 at *
    have hd : Below W0.heap.size W0 W0.drew := (Below.refl _ _).drew
    have kv2 := kv.below hd kv.lt
    have kw2 := kw.below hd kw.lt
    refine (compare_any (tI a b c) (tI d e f) w.heap.size (w.heap.size + 1) W0.drew kv2.lt kw2.lt ?_ ?_).mono ?_
    · intro j hj
      rw [kv2.cell j]
      match j, hj with
      | 0, _ => rfl
      | 1, _ => rfl
      | 2, _ => rfl
    · intro j hj
      rw [kw2.cell j]
      match j, hj with
      | 0, _ => rfl
      | 1, _ => rfl
      | 2, _ => rfl
    · rintro r w1 ⟨h1, h2⟩
      have hb : Below w.heap.size w W0.drew := hB0.drew
      exact ⟨h1, hb.trans (h2.mono hb.size)⟩
  clear kv kw hB0
  go_enter Tryz.func47, Tryz.ntmps47
  go_wp2_with fail
  go_region_held3 (fun _ => True) (exact trivial)
    (((with_reducible refine HX.out.mono ?_); rintro r w1 ⟨rfl, hb1⟩; have HB1 := Lib.hid hb1; clear hb1))
  go_wp2
  go_ret
  exact ⟨rfl, HB1.out⟩
end Go.Proofs.YthpeifkiaodokaaGreatDoor
