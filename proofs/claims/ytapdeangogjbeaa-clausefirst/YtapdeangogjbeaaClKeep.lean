/- The laws' facts: few, solves. -/
import Derived.Test.YtapdeangogjbeaaClSolve
namespace Go.Proofs.Ytapdeangogjbeaa
open Go.RowKit Go.Deep

def IsB (e : Ending) : Prop := ∃ B, e = .returned (.bool B)

set_option maxRecDepth 100000 in
set_option maxHeartbeats 2000000 in
theorem few_any (v most : Int) (l : List (List Int)) (a : Option Addr) (cap : Nat) (w : World) (hI : ClsIn w a l) (hm : l.length ≤ 9223372036854775807) :
    Calls Try.prog 5 #[.int .i64 v, .slice a l.length cap, .int .i64 most] w fun e w' => IsB e ∧ w = w' := by
  have HI := Lib.hid hI
  clear hI
  go_enter Try.func5, Try.ntmps5
  go_wp2_with fail
  go_loop [7, 8] (fun nV kV => ∃ (k : Nat) (n : Int), k ≤ l.length ∧ kV = .int .i64 (k : Int) ∧ nV = .int .i64 n) (fun _ kV => l.length - (intOf kV).toNat)
  case atStart => exact ⟨0, _, Nat.zero_le _, rfl, rfl⟩
  case round =>
    obtain ⟨k, n, hk, rfl, rfl⟩ := hrel
    by_cases hlt : k < l.length
    · obtain ⟨ad, a', cap', rfl, hl, hc, g1, g2, g3⟩ := HI.out k hlt
      clear g3
      generalize (l.getD k []).length = len at *
      go_wp2
      go_round
      case rel => exact ⟨k + 1, _, hlt, by go_num, rfl⟩
      case measure => simp [intOf]; omega
    · obtain rfl : k = l.length := by omega
      by_cases hv : v ≤ 10
      · go_wp2
        go_ret
        exact ⟨⟨_, rfl⟩, rfl⟩
      · go_wp2
        go_ret
        exact ⟨⟨_, rfl⟩, rfl⟩

/-- Two clauses that are laid down by a literal. -/
theorem two_cls {w : World} {b1 b2 b3 : Nat} {t1 t2 t3 : TypeId} {c1 c2 : List Int} (h1 : Blk w b1 t1 (icells c1).toArray) (h2 : Blk w b2 t2 (icells c2).toArray) (h3 : Blk w b3 t3 #[.slice (some ⟨b1, 0, none⟩) c1.length c1.length, .slice (some ⟨b2, 0, none⟩) c2.length c2.length]) (l1 : c1.length ≤ 9223372036854775807) (l2 : c2.length ≤ 9223372036854775807) : ClsIn w (some ⟨b3, 0, none⟩) [c1, c2] := by
  have hi : ∀ (b : Nat) (t : TypeId) (c : List Int), Blk w b t (icells c).toArray → IntsIn w (some ⟨b, 0, none⟩) c := fun b t c h i hi => ⟨_, rfl, h.lt, by rw [add_plain, Nat.zero_add, h.cell, List.getElem?_toArray, icells_at _ _ hi]⟩
  intro i hl
  match i, hl with
  | 0, _ => exact ⟨_, _, _, rfl, h3.lt, by rw [add_plain, h3.cell]; rfl, Nat.le_refl _, l1, hi _ _ _ h1⟩
  | 1, _ => exact ⟨_, _, _, rfl, h3.lt, by rw [add_plain, h3.cell]; rfl, Nat.le_refl _, l2, hi _ _ _ h2⟩

theorem solve_one (e : Ending) (w' : World) (h : SolveR 2 [[-1, 2], [1]] e w') : e = .returned (.tuple #[.agg #[.bool true, .int .u64 3, .slice none 0 0], .nilIface]) := by
  have hc : checkF 2 [[-1, 2], [1]] = (0, -1) := by decide
  have hr : Run (2 : Int).toNat [[-1, 2], [1]] st0 (.sat [1, 2]) := run_of (n := 10) (by kernel_rfl)
  rcases h with ⟨h, _⟩ | ⟨_, r, h1, h2⟩
  · rw [hc] at h; exact absurd rfl h
  · obtain rfl := h1.det hr
    rcases h2 with ⟨t, e1, e2⟩ | ⟨p, _, _, e1, _⟩ | ⟨e1, _⟩
    · cases e1
      rw [e2, show numF [1, 2] 24 = 3 by decide]
      rfl
    · cases e1
    · cases e1
theorem solve_two (e : Ending) (w' : World) (h : SolveR 1 [[1], [-1]] e w') : ∃ a c, e = .returned (.tuple #[.agg #[.bool false, .int .u64 0, .slice a 1 c], .nilIface]) := by
  have hc : checkF 1 [[1], [-1]] = (0, -1) := by decide
  have hr : Run (1 : Int).toNat [[1], [-1]] st0 (.unsat [[]]) := run_of (n := 10) (by kernel_rfl)
  rcases h with ⟨h, _⟩ | ⟨_, r, h1, h2⟩
  · rw [hc] at h; exact absurd rfl h
  · obtain rfl := h1.det hr
    rcases h2 with ⟨t, e1, e2⟩ | ⟨p, a, c, e1, e2, _⟩ | ⟨e1, _⟩
    · cases e1
    · cases e1; exact ⟨a, c, e2⟩
    · cases e1

set_option maxRecDepth 100000 in
set_option maxHeartbeats 2000000 in
theorem solves_any (w : World) : Calls Try.prog 7 #[] w fun e w' => e = .returned (.bool true) ∧ Below w.heap.size w w' := by
  have H1 : Hid (∀ W : World, Calls Try.prog 6 #[.int .i64 2, .slice (some ⟨W.heap.size + 1 + 1, 0, none⟩) 2 2] (((W.alloc (.cells #[.int .i64 (-1), .int .i64 2] 3)).alloc (.cells #[.int .i64 1] 3)).alloc (.cells #[.slice (some ⟨W.heap.size, 0, none⟩) 2 2, .slice (some ⟨W.heap.size + 1, 0, none⟩) 1 1] 39)) fun e w' => e = .returned (.tuple #[.agg #[.bool true, .int .u64 3, .slice none 0 0], .nilIface]) ∧ Below W.heap.size W w') := fun W => by
    have b1 := Blk.new W 3 #[.int .i64 (-1), .int .i64 2]
    have b2 := Blk.new (W.alloc (.cells #[.int .i64 (-1), .int .i64 2] 3)) 3 #[.int .i64 1]
    have b3 := Blk.new ((W.alloc (.cells #[.int .i64 (-1), .int .i64 2] 3)).alloc (.cells #[.int .i64 1] 3)) 39 #[.slice (some ⟨W.heap.size, 0, none⟩) 2 2, .slice (some ⟨W.heap.size + 1, 0, none⟩) 1 1]
    rw [World.size_alloc] at b2
    rw [World.size_alloc, World.size_alloc] at b3
    have hcl := two_cls (c1 := [-1, 2]) (c2 := [1]) ((b1.alloc _).alloc _) (b2.alloc _) b3 (by decide) (by decide)
    refine (solve_any 2 [[-1, 2], [1]] _ 2 (fun h => by cases h) _ hcl (by decide)).mono fun e w' ⟨h, hb⟩ => ⟨solve_one e w' h, ?_⟩
    exact (((below_new W _).alloc (by simp) _).alloc (by simp; omega) _).trans (hb.mono (by simp; omega))
  have H2 : Hid (∀ W : World, Calls Try.prog 6 #[.int .i64 1, .slice (some ⟨W.heap.size + 1 + 1, 0, none⟩) 2 2] (((W.alloc (.cells #[.int .i64 1] 3)).alloc (.cells #[.int .i64 (-1)] 3)).alloc (.cells #[.slice (some ⟨W.heap.size, 0, none⟩) 1 1, .slice (some ⟨W.heap.size + 1, 0, none⟩) 1 1] 39)) fun e w' => (∃ a c, e = .returned (.tuple #[.agg #[.bool false, .int .u64 0, .slice a 1 c], .nilIface])) ∧ Below W.heap.size W w') := fun W => by
    have b1 := Blk.new W 3 #[.int .i64 1]
    have b2 := Blk.new (W.alloc (.cells #[.int .i64 1] 3)) 3 #[.int .i64 (-1)]
    have b3 := Blk.new ((W.alloc (.cells #[.int .i64 1] 3)).alloc (.cells #[.int .i64 (-1)] 3)) 39 #[.slice (some ⟨W.heap.size, 0, none⟩) 1 1, .slice (some ⟨W.heap.size + 1, 0, none⟩) 1 1]
    rw [World.size_alloc] at b2
    rw [World.size_alloc, World.size_alloc] at b3
    have hcl := two_cls (c1 := [1]) (c2 := [-1]) ((b1.alloc _).alloc _) (b2.alloc _) b3 (by decide) (by decide)
    refine (solve_any 1 [[1], [-1]] _ 2 (fun h => by cases h) _ hcl (by decide)).mono fun e w' ⟨h, hb⟩ => ⟨solve_two e w' h, ?_⟩
    exact (((below_new W _).alloc (by simp) _).alloc (by simp; omega) _).trans (hb.mono (by simp; omega))
  go_enter Try.func7, Try.ntmps7
  go_wp2_with fail
  refine (H1.out w).mono ?_
  rintro e w1 ⟨rfl, hb1⟩
  have B2 := Lib.hid (hb1.alloc hb1.size (.cells #[.bool true, .int .u64 3, .slice none 0 0] 26))
  have K2 := Blk.new w1 26 #[.bool true, .int .u64 3, .slice none 0 0]
  have HK2 := Lib.hid K2
  clear hb1 K2
  have h2 := H2.out (w1.alloc (.cells #[.bool true, .int .u64 3, .slice none 0 0] 26))
  simp only [World.size_alloc] at h2
  have HH2 := Lib.hid h2
  clear h2 H1 H2
  go_wp2_with fail
  refine HH2.out.mono ?_
  rintro e w2 ⟨⟨a, c, rfl⟩, hb2⟩
  rw [← World.size_alloc w1 (.cells #[.bool true, .int .u64 3, .slice none 0 0] 26)] at hb2
  have hb3 := hb2.alloc hb2.size (.cells #[.bool false, .int .u64 0, .slice a 1 c] 26)
  have K3 := Blk.new w2 26 #[.bool false, .int .u64 0, .slice a 1 c]
  have K2 := HK2.out.below hb3 HK2.out.lt
  have HB3 : Hid (Below w.heap.size w _) := B2.out.trans (hb3.mono B2.out.size)
  have k0 := K2.cell 0
  have k1 := K2.cell 1
  have m0 := K3.cell 0
  have m2 := K3.cell 2
  clear hb2 hb3 K2 K3 HK2 B2 HH2
  go_wp2
  go_ret
  exact ⟨by first | rfl | simp, HB3.out⟩
end Go.Proofs.Ytapdeangogjbeaa
