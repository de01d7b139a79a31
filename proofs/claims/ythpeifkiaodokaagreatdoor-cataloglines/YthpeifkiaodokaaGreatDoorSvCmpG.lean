/- Cmp of any two versions: what it leaves, to the block. -/
import Derived.Test.YthpeifkiaodokaaGreatDoorSvCmpI
import Derived.Sort.Grow
namespace Go.Proofs.YthpeifkiaodokaaGreatDoor
open Go.RowKit Go.Sort Sv

/-- Blocks behind, and draws: nothing else. -/
def Gr (w w' : World) : Prop := ∃ q os, w' = grow (w.drewN q) os
theorem Gr.refl (w : World) : Gr w w := ⟨0, #[], by rw [grow_empty]; rfl⟩
theorem grow_drewN (w : World) (os : Array Obj) (q : Nat) : (grow w os).drewN q = grow (w.drewN q) os := rfl
theorem drewN_drewN (w : World) (p q : Nat) : (w.drewN p).drewN q = w.drewN (p + q) := by unfold World.drewN; simp [Nat.add_assoc]
theorem Gr.trans {a b c : World} (h : Gr a b) (k : Gr b c) : Gr a c := by
  obtain ⟨q, os, rfl⟩ := h
  obtain ⟨q', os', rfl⟩ := k
  exact ⟨q + q', os ++ os', by rw [grow_drewN, drewN_drewN, grow_grow]⟩
theorem Gr.alloc {a b : World} (h : Gr a b) (o : Obj) : Gr a (b.alloc o) := h.trans ⟨0, #[o], by rw [alloc_eq_grow]; rfl⟩
theorem Gr.drew {a b : World} (h : Gr a b) : Gr a b.drew := h.trans ⟨1, #[], by rw [grow_empty]; rfl⟩
theorem Gr.below {a b : World} (h : Gr a b) : Below a.heap.size a b := by
  obtain ⟨q, os, rfl⟩ := h
  refine ⟨rfl, rfl, rfl, by simp [grow, World.drewN], fun k hk => ?_⟩
  show (a.heap ++ os)[k]? = a.heap[k]?
  rw [Array.getElem?_append_left hk]

set_option maxRecDepth 100000 in
set_option maxHeartbeats 1000000 in
theorem compare_gr (x y : Nat → Int) (bx bv : Nat) (w : World) (lx : bx < w.heap.size) (ly : bv < w.heap.size) (hx : ∀ j, j < 3 → w.cell? ⟨bx, j, none⟩ = some (.int .i64 (x j))) (hy : ∀ j, j < 3 → w.cell? ⟨bv, j, none⟩ = some (.int .i64 (y j))) :
    Calls Tryz.prog 101 #[.slice (some ⟨bx, 0, none⟩) 3 3, .slice (some ⟨bv, 0, none⟩) 3 3] w fun e w' => e = .returned (.int .i64 (cmp3 x y 3)) ∧ Gr w w' := by
  have HC : Hid (∀ X Y W, Calls Tryz.prog 136 #[.int .i64 X, .int .i64 Y] W fun e w' => e = .returned (.int .i64 (cmpI X Y)) ∧ w' = W) := fun X Y W => cmp_any X Y W
  have hcell : Hid ((∀ W, Below w.heap.size w W → ∀ j, j < 3 → W.cell? ⟨bx, j, none⟩ = some (.int .i64 (x j))) ∧ (∀ W, Below w.heap.size w W → ∀ j, j < 3 → W.cell? ⟨bv, j, none⟩ = some (.int .i64 (y j)))) := ⟨fun W hb j hj => (hb.cell (p := ⟨bx, j, none⟩) lx).trans (hx j hj), fun W hb j hj => (hb.cell (p := ⟨bv, j, none⟩) ly).trans (hy j hj)⟩
  clear hx hy lx ly
  go_enter Tryz.func101, Tryz.ntmps101
  go_wp2_with fail
  go_loopw [11] (fun iV wr => ∃ k : Nat, k ≤ 3 ∧ iV = .int .i64 (k : Int) ∧ cmp3 x y 3 = cmp3 x y (3 - k) ∧ Gr w wr) (fun iV _ => 3 - (intOf iV).toNat)
  case atStart => exact ⟨0, by omega, rfl, rfl, Gr.refl _⟩
  case round =>
    obtain ⟨k, hk, rfl, heq, hbr⟩ := hrel
    have HE := Lib.hid heq
    have HBR := Lib.hid hbr
    clear heq hbr
    by_cases hlt : k < 3
    · have c0 := hcell.out.1 _ HBR.out.below k hlt
      have c1 := hcell.out.2 _ HBR.out.below k hlt
      have HS : Hid (cmp3 x y (3 - k) = if cmpI (x k) (y k) ≠ 0 then cmpI (x k) (y k) else cmp3 x y (3 - (k + 1))) := by
        show _ = _
        match k, hlt with
        | 0, _ => rfl
        | 1, _ => rfl
        | 2, _ => rfl
      generalize x k = X at *
      generalize y k = Y at *
      go_wp2_with fail
      refine (HC.out _ _ _).mono ?_
      rintro e w1 ⟨rfl, rfl⟩
      generalize cmpI X Y = Z at *
      by_cases hz : Z = 0
      · subst hz
        go_wp2
        go_roundw
        case rel => exact ⟨k + 1, by omega, by go_num, by rw [HE.out, HS.out, if_neg (by simp)], HBR.out⟩
        case measure => simp [intOf]; omega
      · have hz2 : (Z == 0) = false := by rw [beq_eq_false_iff_ne]; exact hz
        go_wp2
        go_ret
        exact ⟨by rw [HE.out, HS.out, if_pos hz]; rfl, HBR.out⟩
    · obtain rfl : k = 3 := by omega
      go_wp2
      go_ret
      exact ⟨by rw [HE.out]; rfl, HBR.out⟩

set_option maxRecDepth 100000 in
set_option maxHeartbeats 1000000 in
theorem cmpw_gr (a b c d e f : Int) (w : World) :
    Calls Tryz.prog 47 #[.agg #[.int .i64 a, .int .i64 b, .int .i64 c], .agg #[.int .i64 d, .int .i64 e, .int .i64 f]] w fun r w' => r = .returned (.int .i64 (cmp3 (tI a b c) (tI d e f) 3)) ∧ Gr w w' := by
  have kv := (Blk.new w 42 #[.int .i64 a, .int .i64 b, .int .i64 c]).alloc (.cells #[.int .i64 d, .int .i64 e, .int .i64 f] 42)
  have kw := Blk.new (w.alloc (.cells #[.int .i64 a, .int .i64 b, .int .i64 c] 42)) 42 #[.int .i64 d, .int .i64 e, .int .i64 f]
  rw [World.size_alloc] at kw
  have hB0 : Gr w ((w.alloc (.cells #[.int .i64 a, .int .i64 b, .int .i64 c] 42)).alloc (.cells #[.int .i64 d, .int .i64 e, .int .i64 f] 42)) := ((Gr.refl w).alloc _).alloc _
  have HX : Hid (Calls Tryz.prog 101 #[.slice (some ⟨w.heap.size, 0, none⟩) 3 3, .slice (some ⟨w.heap.size + 1, 0, none⟩) 3 3] ((w.alloc (.cells #[.int .i64 a, .int .i64 b, .int .i64 c] 42)).alloc (.cells #[.int .i64 d, .int .i64 e, .int .i64 f] 42)).drew fun r w' => r = .returned (.int .i64 (cmp3 (tI a b c) (tI d e f) 3)) ∧ Gr w w') := by
    generalize (w.alloc (.cells #[.int .i64 a, .int .i64 b, .int .i64 c] 42)).alloc (.cells #[.int .i64 d, .int .i64 e, .int .i64 f] 42) = W0 at *
    have hd : Below W0.heap.size W0 W0.drew := (Below.refl _ _).drew
    have kv2 := kv.below hd kv.lt
    have kw2 := kw.below hd kw.lt
    refine (compare_gr (tI a b c) (tI d e f) w.heap.size (w.heap.size + 1) W0.drew kv2.lt kw2.lt ?_ ?_).mono ?_
    · intro j hj
      rw [kv2.cell j]
      match j, hj with
      | 0, _ => rfl
      | 1, _ => rfl
      | 2, _ => rfl
    · intro j hj
      rw [kw2.cell j]
      match j, hj with
      | 0, _ => rfl
      | 1, _ => rfl
      | 2, _ => rfl
    · rintro r w1 ⟨h1, h2⟩
      have hb : Gr w W0.drew := hB0.drew
      exact ⟨h1, hb.trans h2⟩
  clear kv kw hB0
  go_enter Tryz.func47, Tryz.ntmps47
  go_wp2_with fail
  go_region_held3 (fun _ => True) (exact trivial)
    (((with_reducible refine HX.out.mono ?_); rintro r w1 ⟨rfl, hb1⟩; have HB1 := Lib.hid hb1; clear hb1))
  go_wp2
  go_ret
  exact ⟨rfl, HB1.out⟩
end Go.Proofs.YthpeifkiaodokaaGreatDoor
