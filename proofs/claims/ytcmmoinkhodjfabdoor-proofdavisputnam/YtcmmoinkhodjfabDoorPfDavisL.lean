/- The walk of ProofDavisPutnam. -/
import Derived.Test.YtcmmoinkhodjfabDoorPfElimW
import Derived.Test.YtcmmoinkhodjfabDoorPfShown
import Derived.Test.YtcmmoinkhodjfabDoorPfShowsW
import Derived.Test.YtcmmoinkhodjfabDoorClSolve
import Derived.Test.YtcmmoinkhodjfabDoorClFirstM
import Derived.Test.YtcmmoinkhodjfabDoorClFewK
import Derived.Test.YtcmmoinkhodjfabDoorErTell
namespace Go.Proofs.YtcmmoinkhodjfabDoor
open Go.RowKit Go.Deep

/-- What Solve tells is so. -/
theorem run_can {v : Nat} {l : List (List Int)} {r : Res} (hv : v ≤ 24) (hl : LitsL v l) (hr : Run v l st0 r) : (∀ p, r = .unsat p → ¬ ∃ vals, SatL vals l) ∧ (∀ t, r = .sat t → ∃ vals, SatL vals l) := by
  obtain ⟨h1, h2⟩ := run_inv hv hl hr (good0 v) (inv0 l)
  refine ⟨fun p hp ⟨vals, hs⟩ => h1 p hp vals hs, fun t ht => ?_⟩
  obtain ⟨ds, hi, hlt, hc, hall, hcl⟩ := h2 t ht
  refine ⟨numF t 24, fun c hcc => ?_⟩
  obtain ⟨x, hx, hxt⟩ := hcl c hcc
  exact ⟨x, hx, numF_sat hlt hc hv x hxt⟩
theorem solve_form {v : Int} {l : List (List Int)} {e : Ending} {w : World} (h : SolveR v l e w) : ∃ b N pa pn pc er, e = .returned (.tuple #[.agg #[.bool b, .int .u64 N, .slice pa pn pc], er]) ∧ ((∃ t u, er = .iface t u) ∨ (er = .nilIface ∧ (checkF v l).1 = 0 ∧ (b = true ↔ ∃ vals, SatL vals l))) := by
  rcases h with ⟨hz, er, he, her⟩ | ⟨hz, r, hr, ⟨t, ht, he⟩ | ⟨p, a, c, hp, he, -⟩ | ⟨-, he⟩⟩
  · obtain ⟨t, u, rfl⟩ := err_form her hz
    exact ⟨_, _, _, _, _, _, he, Or.inl ⟨t, u, rfl⟩⟩
  · obtain ⟨hv0, hv1, _, hls, -, -⟩ := check_fine hz
    have hl : LitsL (v.toNat : Nat) l := by rw [show ((v.toNat : Nat) : Int) = v by omega]; exact hls
    exact ⟨_, _, _, _, _, _, he, Or.inr ⟨rfl, hz, fun _ => (run_can (by omega) hl hr).2 t ht, fun _ => rfl⟩⟩
  · obtain ⟨hv0, hv1, _, hls, -, -⟩ := check_fine hz
    have hl : LitsL (v.toNat : Nat) l := by rw [show ((v.toNat : Nat) : Int) = v by omega]; exact hls
    exact ⟨_, _, _, _, _, _, he, Or.inr ⟨rfl, hz, fun h => by simp at h, fun h => absurd h ((run_can (by omega) hl hr).1 p hp)⟩⟩
  · exact ⟨_, _, _, _, _, _, he, Or.inl ⟨_, _, rfl⟩⟩
theorem elim_form {v : Int} {l : List (List Int)} {e : Ending} {w : World} (h : ElimAns v l e w) : ∃ sa sn sc b er, e = .returned (.tuple #[.slice sa sn sc, .bool b, er]) ∧ ((checkF v l).1 = 0 → er = .iface 33 (.int .i64 4) ∨ (er = .nilIface ∧ (sn : Int) = v ∧ (b = true ↔ ∃ vals, SatL vals l))) ∧ (er = .nilIface ∨ ∃ t u, er = .iface t u) := by
  rcases h with ⟨hz, er, he, her⟩ | ⟨hz, -, he⟩ | ⟨hz, s, m, hk, a, c, he, -⟩
  · obtain ⟨t, u, rfl⟩ := err_form her hz
    exact ⟨_, _, _, _, _, he, fun h => absurd h hz, Or.inr ⟨t, u, rfl⟩⟩
  · exact ⟨_, _, _, _, _, he, fun _ => Or.inl rfl, Or.inr ⟨_, _, rfl⟩⟩
  · obtain ⟨hv0, hv1, _, hls, -, -⟩ := check_fine hz
    have hl : LitsL (v.toNat : Nat) l := by rw [show ((v.toNat : Nat) : Int) = v by omega]; exact hls
    obtain ⟨q1, q2⟩ := elim_can (by omega) hl hk
    refine ⟨_, _, _, _, _, he, fun _ => Or.inr ⟨rfl, by rw [q1]; omega, ?_⟩, Or.inl rfl⟩
    rw [decide_eq_true_eq]
    exact q2

set_option maxRecDepth 100000 in
set_option maxHeartbeats 4000000 in
theorem davis_any (v : Int) (l : List (List Int)) (a1 : Option Addr) (c1 : Nat) (hn : a1 = none → c1 = 0) (w : World) (hI : ClsIn w a1 l) (hm : l.length ≤ 9223372036854775807) (hg : Glob w) :
    Calls Tryd.prog 4 #[.int .i64 v, .slice a1 l.length c1] w fun e w' => e = .returned (.bool true) ∧ Below w.heap.size w w' := by
  have HF1 := Lib.hid (few_any v 60 l a1 c1 w hI hm)
  have HSV := Lib.hid (solve_any v l a1 c1 hn w hI hm)
  have HI := Lib.hid hI
  have HG := Lib.hid hg
  have HSH : Hid (∀ W : World, Calls Tryd.prog 9 #[] W fun e w' => e = .returned (.bool true) ∧ Below W.heap.size W w') := shown_any
  clear hI hg hn
  go_enter Tryd.func4, Tryd.ntmps4
  go_wp2_with fail
  refine HF1.out.mono ?_
  rintro e w1 ⟨⟨B, rfl⟩, rfl⟩
  clear HF1
  cases B with
  | false =>
    go_wp2
    go_ret
    exact ⟨rfl, Below.refl _ _⟩
  | true =>
    by_cases h7 : 7 < v
    · go_wp2
      go_ret
      exact ⟨rfl, Below.refl _ _⟩
    · go_wp2_with fail
      refine HSV.out.mono ?_
      rintro e w1 ⟨hans, hb1⟩
      obtain ⟨b, N, pa, pn, pc, er, rfl, hcase⟩ := solve_form hans
      have hbn := below_new w1 (.cells #[.bool b, .int .u64 N, .slice pa pn pc] 42)
      have hb2 : Below w.heap.size w (w1.alloc (.cells #[.bool b, .int .u64 N, .slice pa pn pc] 42)) := hb1.trans (hbn.mono hb1.size)
      have hblk := Blk.new w1 42 #[.bool b, .int .u64 N, .slice pa pn pc]
      have HEL := Lib.hid (elim_any v l a1 c1 _ (HI.out.below hb2) hm)
      have HB2 := Lib.hid hb2
      have HBL := Lib.hid hblk
      clear hb1 hbn hb2 hblk hans HSV HI
      go_wp2_with fail
      refine HEL.out.mono ?_
      rintro e w3 ⟨hans2, hb3⟩
      obtain ⟨sa, sn, sc, d, er2, rfl, hc2, hf2⟩ := elim_form hans2
      have HB3 : Hid (Below w.heap.size w w3) := HB2.out.trans (hb3.mono HB2.out.size)
      have HQ0 : Hid (Blk w3 w1.heap.size 42 #[.bool b, .int .u64 N, .slice pa pn pc]) := HBL.out.below hb3 HBL.out.lt
      have HS1 := Lib.hid (HSH.out w3)
      clear hans2 hb3 HEL HB2 HBL
      rcases hcase with ⟨t, u, rfl⟩ | ⟨rfl, hz, hb⟩
      · clear hc2 hf2 HQ0
        go_wp2_with fail
        refine HS1.out.mono ?_
        rintro e w4 ⟨rfl, hb4⟩
        have HB4 : Hid (Below w.heap.size w w4) := HB3.out.trans (hb4.mono HB3.out.size)
        have HS2 := Lib.hid (HSH.out w4)
        clear hb4 HS1 HB3
        go_wp2_with fail
        refine HS2.out.mono ?_
        rintro e w5 ⟨rfl, hb5⟩
        have HB5 : Hid (Below w.heap.size w w5) := HB4.out.trans (hb5.mono HB4.out.size)
        clear hb5 HS2 HB4
        go_wp2
        go_ret
        exact ⟨by first | rfl | simp, HB5.out⟩
      · rcases hc2 hz with rfl | ⟨rfl, hsn, hd⟩
        · clear hc2 hf2 hb HQ0
          go_wp2_with fail
          refine HS1.out.mono ?_
          rintro e w4 ⟨rfl, hb4⟩
          have HB4 : Hid (Below w.heap.size w w4) := HB3.out.trans (hb4.mono HB3.out.size)
          have HS2 := Lib.hid (HSH.out w4)
          clear hb4 HS1 HB3
          go_wp2_with fail
          refine HS2.out.mono ?_
          rintro e w5 ⟨rfl, hb5⟩
          have HB5 : Hid (Below w.heap.size w w5) := HB4.out.trans (hb5.mono HB4.out.size)
          have HTL := Lib.hid (tell_errno 4 w5 (HG.out.below HB5.out))
          clear hb5 HS2 HB4
          go_wp2_with fail
          refine HTL.out.mono ?_
          rintro e w6 ⟨rfl, hb6⟩
          have HB6 : Hid (Below w.heap.size w w6) := HB5.out.trans (hb6.mono HB5.out.size)
          clear hb6 HTL HB5
          go_wp2
          go_ret
          exact ⟨by first | rfl | simp, HB6.out⟩
        · obtain rfl : d = b := by
            rw [Bool.eq_iff_iff, hd, hb]
          clear hc2 hf2 hb hd hz
          subst hsn
          go_wp2_with fail
          refine HS1.out.mono ?_
          rintro e w4 ⟨rfl, hb4⟩
          have HB4 : Hid (Below w.heap.size w w4) := HB3.out.trans (hb4.mono HB3.out.size)
          have q0 := ((HQ0.out.below hb4 HQ0.out.lt).cell 0).trans (show _ = some (.bool d) from rfl)
          clear hb4 HS1 HB3 HQ0
          cases d with
          | false =>
            go_wp2
            go_ret
            exact ⟨by first | rfl | simp, HB4.out⟩
          | true =>
            go_wp2
            go_ret
            exact ⟨by first | rfl | simp, HB4.out⟩
end Go.Proofs.YtcmmoinkhodjfabDoor
