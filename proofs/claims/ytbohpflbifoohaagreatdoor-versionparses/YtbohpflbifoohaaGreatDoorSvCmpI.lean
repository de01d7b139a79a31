/- Cmp of any two versions. -/
import Derived.Test.YtbohpflbifoohaaGreatDoorSvCmp
namespace Go.Proofs.YtbohpflbifoohaaGreatDoor
open Go.RowKit Sv

def tI (a b c : Int) (j : Nat) : Int := if j = 0 then a else if j = 1 then b else c
set_option maxRecDepth 100000 in
set_option maxHeartbeats 1000000 in
theorem cmpw_any (a b c d e f : Int) (w : World) :
    Calls Tryz.prog 12 #[.agg #[.int .i64 a, .int .i64 b, .int .i64 c], .agg #[.int .i64 d, .int .i64 e, .int .i64 f]] w fun r w' => r = .returned (.int .i64 (cmp3 (tI a b c) (tI d e f) 3)) ∧ Below w.heap.size w w' := by
  have kv := (Blk.new w 23 #[.int .i64 a, .int .i64 b, .int .i64 c]).alloc (.cells #[.int .i64 d, .int .i64 e, .int .i64 f] 23)
  have kw := Blk.new (w.alloc (.cells #[.int .i64 a, .int .i64 b, .int .i64 c] 23)) 23 #[.int .i64 d, .int .i64 e, .int .i64 f]
  rw [World.size_alloc] at kw
  have hB0 : Below w.heap.size w ((w.alloc (.cells #[.int .i64 a, .int .i64 b, .int .i64 c] 23)).alloc (.cells #[.int .i64 d, .int .i64 e, .int .i64 f] 23)) := ((Below.refl _ w).alloc (Nat.le_refl _) _).alloc (by simp only [World.size_alloc]; omega) _
  have HX : Hid (Calls Tryz.prog 40 #[.slice (some ⟨w.heap.size, 0, none⟩) 3 3, .slice (some ⟨w.heap.size + 1, 0, none⟩) 3 3] ((w.alloc (.cells #[.int .i64 a, .int .i64 b, .int .i64 c] 23)).alloc (.cells #[.int .i64 d, .int .i64 e, .int .i64 f] 23)).drew fun r w' => r = .returned (.int .i64 (cmp3 (tI a b c) (tI d e f) 3)) ∧ Below w.heap.size w w') := by
    generalize (w.alloc (.cells #[.int .i64 a, .int .i64 b, .int .i64 c] 23)).alloc (.cells #[.int .i64 d, .int .i64 e, .int .i64 f] 23) = W0 at *
    have hd : Below W0.heap.size W0 W0.drew := (Below.refl _ _).drew
    have kv2 := kv.below hd kv.lt
    have kw2 := kw.below hd kw.lt
    refine (compare_any (tI a b c) (tI d e f) w.heap.size (w.heap.size + 1) W0.drew kv2.lt kw2.lt ?_ ?_).mono ?_
    · intro j hj
      rw [kv2.cell j]
      match j, hj with
      | 0, _ => rfl
      | 1, _ => rfl
      | 2, _ => rfl
    · intro j hj
      rw [kw2.cell j]
      match j, hj with
      | 0, _ => rfl
      | 1, _ => rfl
      | 2, _ => rfl
    · rintro r w1 ⟨h1, h2⟩
      have hb : Below w.heap.size w W0.drew := hB0.drew
      exact ⟨h1, hb.trans (h2.mono hb.size)⟩
  clear kv kw hB0
  go_enter Tryz.func12, Tryz.ntmps12
  go_wp2_with fail
  go_region_held3 (fun _ => True) (exact trivial)
    (((with_reducible refine HX.out.mono ?_); rintro r w1 ⟨rfl, hb1⟩; have HB1 := Lib.hid hb1; clear hb1))
  go_wp2
  go_ret
  exact ⟨rfl, HB1.out⟩
end Go.Proofs.YtbohpflbifoohaaGreatDoor
