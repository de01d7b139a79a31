/- The laws' fact: what an empty proof shows. -/
import Derived.Test.YtcmmoinkhodjfabDoorPfShowsW
import Derived.Test.YtcmmoinkhodjfabDoorClFewK
namespace Go.Proofs.YtcmmoinkhodjfabDoor
open Go.RowKit Go.Deep

theorem shown_one : ShowsR 1 [[1], [-1]] [[]] true 1 := by
  refine Or.inr ⟨fun j hj => ?_, rfl, iff_of_true rfl ⟨by simp, rfl⟩⟩
  obtain rfl : j = 0 := by simp at hj; omega
  refine ⟨fun x hx => (by cases hx), Or.inr (.unit (c := [1]) (x := 1) (by simp) (by simp) (fun y hy hne => ?_) (.bad (c := [-1]) (by simp) (fun y hy => ?_)))⟩
  · rw [List.mem_singleton] at hy; exact absurd hy hne
  · rw [List.mem_singleton] at hy; subst hy; simp
theorem shown_two : ShowsR 1 [[1]] [[]] false 0 := by
  refine Or.inl ⟨0, by simp, rfl, rfl, fun ⟨_, h⟩ => ?_, fun j hj => by omega⟩
  rcases h with ⟨x, hx, _⟩ | h
  · cases hx
  · refine no_conf (t := [1]) (fun x hx hn => ?_) (fun c hc => ?_) h (fun x hx => by cases hx)
    · rw [List.mem_singleton] at hx hn; omega
    · simp at hc; subst hc; exact Or.inl ⟨1, by simp, by simp⟩
theorem ans_one {e : Ending} {w' : World} (h : ShowsAns 1 [[1], [-1]] [[]] e w') : e = .returned (.tuple #[.bool true, .int .i64 1, .nilIface]) := by
  have hc : (checkF 1 [[1], [-1]]).1 = 0 := by decide
  rcases h with ⟨h, _⟩ | ⟨_, h, _⟩ | ⟨_, _, B, n, he, hr⟩
  · exact absurd hc h
  · simp at h
  · obtain ⟨rfl, rfl⟩ := hr.det shown_one
    exact he
theorem ans_two {e : Ending} {w' : World} (h : ShowsAns 1 [[1]] [[]] e w') : e = .returned (.tuple #[.bool false, .int .i64 0, .nilIface]) := by
  have hc : (checkF 1 [[1]]).1 = 0 := by decide
  rcases h with ⟨h, _⟩ | ⟨_, h, _⟩ | ⟨_, _, B, n, he, hr⟩
  · exact absurd hc h
  · simp at h
  · obtain ⟨rfl, rfl⟩ := hr.det shown_two
    exact he

set_option maxRecDepth 100000 in
set_option maxHeartbeats 2000000 in
theorem shown_any (w : World) : Calls Tryd.prog 9 #[] w fun e w' => e = .returned (.bool true) ∧ Below w.heap.size w w' := by
  have H1 : Hid (∀ W : World, Calls Tryd.prog 27 #[.int .i64 1, .slice (some ⟨W.heap.size + 1 + 1, 0, none⟩) 2 2, .slice (some ⟨W.heap.size + 1 + 1 + 1 + 1, 0, none⟩) 1 1] (((((W.alloc (.cells #[.int .i64 1] 3)).alloc (.cells #[.int .i64 (-1)] 3)).alloc (.cells #[.slice (some ⟨W.heap.size, 0, none⟩) 1 1, .slice (some ⟨W.heap.size + 1, 0, none⟩) 1 1] 23)).alloc (.cells #[] 3)).alloc (.cells #[.slice (some ⟨W.heap.size + 1 + 1 + 1, 0, none⟩) 0 0] 23)) fun e w' => e = .returned (.tuple #[.bool true, .int .i64 1, .nilIface]) ∧ Below W.heap.size W w') := fun W => by
    have b1 := Blk.new W 3 #[.int .i64 1]
    have b2 := Blk.new (W.alloc (.cells #[.int .i64 1] 3)) 3 #[.int .i64 (-1)]
    have b3 := Blk.new ((W.alloc (.cells #[.int .i64 1] 3)).alloc (.cells #[.int .i64 (-1)] 3)) 23 #[.slice (some ⟨W.heap.size, 0, none⟩) 1 1, .slice (some ⟨W.heap.size + 1, 0, none⟩) 1 1]
    have b4 := Blk.new (((W.alloc (.cells #[.int .i64 1] 3)).alloc (.cells #[.int .i64 (-1)] 3)).alloc (.cells #[.slice (some ⟨W.heap.size, 0, none⟩) 1 1, .slice (some ⟨W.heap.size + 1, 0, none⟩) 1 1] 23)) 3 #[]
    have b5 := Blk.new ((((W.alloc (.cells #[.int .i64 1] 3)).alloc (.cells #[.int .i64 (-1)] 3)).alloc (.cells #[.slice (some ⟨W.heap.size, 0, none⟩) 1 1, .slice (some ⟨W.heap.size + 1, 0, none⟩) 1 1] 23)).alloc (.cells #[] 3)) 23 #[.slice (some ⟨W.heap.size + 1 + 1 + 1, 0, none⟩) 0 0]
    simp only [World.size_alloc] at b2 b3 b4 b5
    have hcl := two_cls (w := (((((W.alloc (.cells #[.int .i64 1] 3)).alloc (.cells #[.int .i64 (-1)] 3)).alloc (.cells #[.slice (some ⟨W.heap.size, 0, none⟩) 1 1, .slice (some ⟨W.heap.size + 1, 0, none⟩) 1 1] 23)).alloc (.cells #[] 3)).alloc (.cells #[.slice (some ⟨W.heap.size + 1 + 1 + 1, 0, none⟩) 0 0] 23))) (c1 := [1]) (c2 := [-1]) ((((b1.alloc _).alloc _).alloc _).alloc _) (((b2.alloc _).alloc _).alloc _) ((b3.alloc _).alloc _) (by decide) (by decide)
    have hpr := one_cls (w := (((((W.alloc (.cells #[.int .i64 1] 3)).alloc (.cells #[.int .i64 (-1)] 3)).alloc (.cells #[.slice (some ⟨W.heap.size, 0, none⟩) 1 1, .slice (some ⟨W.heap.size + 1, 0, none⟩) 1 1] 23)).alloc (.cells #[] 3)).alloc (.cells #[.slice (some ⟨W.heap.size + 1 + 1 + 1, 0, none⟩) 0 0] 23))) (c1 := []) (b4.alloc _) b5 (by decide)
    refine (shows_any 1 [[1], [-1]] [[]] _ _ 2 1 _ hcl (by decide) hpr (by decide)).mono fun e w' ⟨h, hb⟩ => ⟨ans_one h, ?_⟩
    exact (((((below_new W _).alloc (by simp) _).alloc (by simp; omega) _).alloc (by simp; omega) _).alloc (by simp; omega) _).trans (hb.mono (by simp; omega))
  have H2 : Hid (∀ W : World, Calls Tryd.prog 27 #[.int .i64 1, .slice (some ⟨W.heap.size + 1, 0, none⟩) 1 1, .slice (some ⟨W.heap.size + 1 + 1 + 1, 0, none⟩) 1 1] ((((W.alloc (.cells #[.int .i64 1] 3)).alloc (.cells #[.slice (some ⟨W.heap.size, 0, none⟩) 1 1] 23)).alloc (.cells #[] 3)).alloc (.cells #[.slice (some ⟨W.heap.size + 1 + 1, 0, none⟩) 0 0] 23)) fun e w' => e = .returned (.tuple #[.bool false, .int .i64 0, .nilIface]) ∧ Below W.heap.size W w') := fun W => by
    have b1 := Blk.new W 3 #[.int .i64 1]
    have b3 := Blk.new (W.alloc (.cells #[.int .i64 1] 3)) 23 #[.slice (some ⟨W.heap.size, 0, none⟩) 1 1]
    have b4 := Blk.new ((W.alloc (.cells #[.int .i64 1] 3)).alloc (.cells #[.slice (some ⟨W.heap.size, 0, none⟩) 1 1] 23)) 3 #[]
    have b5 := Blk.new (((W.alloc (.cells #[.int .i64 1] 3)).alloc (.cells #[.slice (some ⟨W.heap.size, 0, none⟩) 1 1] 23)).alloc (.cells #[] 3)) 23 #[.slice (some ⟨W.heap.size + 1 + 1, 0, none⟩) 0 0]
    simp only [World.size_alloc] at b3 b4 b5
    have hcl := one_cls (w := ((((W.alloc (.cells #[.int .i64 1] 3)).alloc (.cells #[.slice (some ⟨W.heap.size, 0, none⟩) 1 1] 23)).alloc (.cells #[] 3)).alloc (.cells #[.slice (some ⟨W.heap.size + 1 + 1, 0, none⟩) 0 0] 23))) (c1 := [1]) (((b1.alloc _).alloc _).alloc _) ((b3.alloc _).alloc _) (by decide)
    have hpr := one_cls (w := ((((W.alloc (.cells #[.int .i64 1] 3)).alloc (.cells #[.slice (some ⟨W.heap.size, 0, none⟩) 1 1] 23)).alloc (.cells #[] 3)).alloc (.cells #[.slice (some ⟨W.heap.size + 1 + 1, 0, none⟩) 0 0] 23))) (c1 := []) (b4.alloc _) b5 (by decide)
    refine (shows_any 1 [[1]] [[]] _ _ 1 1 _ hcl (by decide) hpr (by decide)).mono fun e w' ⟨h, hb⟩ => ⟨ans_two h, ?_⟩
    exact ((((below_new W _).alloc (by simp) _).alloc (by simp; omega) _).alloc (by simp; omega) _).trans (hb.mono (by simp; omega))
  go_enter Tryd.func9, Tryd.ntmps9
  go_wp2_with fail
  refine (H1.out w).mono ?_
  rintro e w1 ⟨rfl, hb1⟩
  have HB1 := Lib.hid hb1
  clear hb1 H1
  go_wp2_with fail
  refine (H2.out w1).mono ?_
  rintro e w2 ⟨rfl, hb2⟩
  have HB2 : Hid (Below w.heap.size w w2) := HB1.out.trans (hb2.mono HB1.out.size)
  clear hb2 H2
  go_wp2
  go_ret
  exact ⟨by first | rfl | simp, HB2.out⟩
end Go.Proofs.YtcmmoinkhodjfabDoor
