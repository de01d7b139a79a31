/- The walk of ProofShows. -/
import Derived.Test.YtcmmoinkhodjfaaDoorClRCheck
import Derived.Test.YtcmmoinkhodjfaaDoorClFew
import Derived.Test.YtcmmoinkhodjfaaDoorPfShowsW
import Derived.Test.YtcmmoinkhodjfaaDoorPfRShows
namespace Go.Proofs.YtcmmoinkhodjfaaDoor
open Go.RowKit Go.Deep

set_option maxRecDepth 100000 in
set_option maxHeartbeats 4000000 in
theorem pshows_any (v : Int) (l pr : List (List Int)) (a a2 : Option Addr) (cap cap2 : Nat) (hn : a = none → cap = 0) (w : World) (hI : ClsIn w a l) (hm : l.length ≤ 9223372036854775807) (hI2 : ClsIn w a2 pr) (hm2 : pr.length ≤ 9223372036854775807) (hg : Glob w) (hF : Fine w) :
    Calls Tryd.prog 5 #[.int .i64 v, .slice a l.length cap, .slice a2 pr.length cap2] w fun e w' => e = .returned (.bool true) ∧ Below w.heap.size w w' := by
  have HI := Lib.hid hI
  have HI2 := Lib.hid hI2
  have HG := Lib.hid hg
  have HFW := Lib.hid (few_any v 200 l a cap w hI hm)
  have HFW2 := Lib.hid (few_any v 200 pr a2 cap2 w hI2 hm2)
  have HRC := Lib.hid (rcheck_any v l a cap w hI hm hF)
  have HFO : Hid (∀ W, Below w.heap.size w W → Calls Tryd.prog 22 #[.int .i64 v, .slice a l.length cap, .slice a2 pr.length cap2] W fun e w' => ShowsAns v l pr e w' ∧ Below W.heap.size W w') := fun W hW => shows_any v l pr a a2 cap cap2 W (HI.out.below hW) hm (HI2.out.below hW) hm2
  have HN := Lib.hid hn
  clear hI hI2 hg hF hn
  go_enter Tryd.func5, Tryd.ntmps5
  go_wp2_with fail
  refine HFW.out.mono ?_
  rintro e w1 ⟨⟨B, rfl⟩, rfl⟩
  clear HFW
  cases B with
  | false =>
    go_wp2
    go_ret
    exact ⟨rfl, Below.refl _ _⟩
  | true =>
    go_wp2_with fail
    refine HFW2.out.mono ?_
    rintro e w1 ⟨⟨B, rfl⟩, rfl⟩
    clear HFW2
    cases B with
    | false =>
      go_wp2
      go_ret
      exact ⟨rfl, Below.refl _ _⟩
    | true =>
      go_wp2_with fail
      refine HRC.out.mono ?_
      rintro e w1 ⟨rfl, hb1⟩
      have HB1 := Lib.hid hb1
      have hws1 := hb1.size
      clear hb1 HRC
      by_cases hz : (checkF v l).1 = 0
      · obtain ⟨hv0, hv1, hl200, hls, hck, h48⟩ := check_fine hz
        obtain ⟨n, rfl⟩ : ∃ n : Nat, v = (n : Int) := ⟨v.toNat, by omega⟩
        have hbn := below_new w1 (.cells #[.int .i64 0, .int .i64 (-1)] 41)
        have HK := Lib.hid (Blk.new w1 41 #[.int .i64 0, .int .i64 (-1)])
        have HB2 : Hid (Below w.heap.size w (w1.alloc (.cells #[.int .i64 0, .int .i64 (-1)] 41))) := HB1.out.trans (hbn.mono HB1.out.size)
        have HRF := Lib.hid (rshows_any n (by omega) l pr hls hl200 a a2 cap cap2 HN.out _ (HI.out.below HB2.out) (HI2.out.below HB2.out) hm2)
        rw [hck]
        have HZ := Lib.hid hz
        clear hbn HB1 hls h48 hck hz
        go_wp2_with fail
        generalize w1.alloc (.cells #[.int .i64 0, .int .i64 (-1)] 41) = W2 at *
        refine HRF.out.mono ?_
        rintro e w3 ⟨hR, hb3⟩
        have HK3 := Lib.hid (HK.out.below hb3 HK.out.lt)
        have HB3 : Hid (Below w.heap.size w w3) := HB2.out.trans (hb3.mono HB2.out.size)
        clear hb3 HRF HK HB2
        rcases hR with ⟨h5, rfl⟩ | ⟨h5, B, k, rfl, hsr⟩
        · have HBA := Lib.hid (refBare 4 w3)
          go_wp2_with fail
          refine HBA.out.mono ?_
          rintro e w4 ⟨rfl, hb4⟩
          have hK4 := HK3.out.below hb4 HK3.out.lt
          have hB4 : Below w.heap.size w w4 := HB3.out.trans (hb4.mono HB3.out.size)
          have k0 := hK4.cell 0
          have f0 := hK4.frozen 0
          have hK5 := hK4.set (i := 0) (v := .int .i64 4)
          have k1 := hK5.cell 1
          have f1 := hK5.frozen 1
          have hK6 := hK5.set (i := 1) (v := .int .i64 (-1))
          have hB6 : Below w.heap.size w ((w4.setCell ⟨w1.heap.size, 0, none⟩ (.int .i64 4)).setCell ⟨w1.heap.size, 1, none⟩ (.int .i64 (-1))) := (hB4.setCell (p := ⟨w1.heap.size, 0, none⟩) hws1 _).setCell (p := ⟨w1.heap.size, 1, none⟩) hws1 _
          have HB6 := Lib.hid hB6
          have HK6 : Hid (Blk ((w4.setCell ⟨w1.heap.size, 0, none⟩ (.int .i64 4)).setCell ⟨w1.heap.size, 1, none⟩ (.int .i64 (-1))) w1.heap.size 41 #[.int .i64 4, .int .i64 (-1)]) := hK6
          have HFF := Lib.hid (HFO.out _ hB6)
          clear hb4 HBA hK4 hB4 hK5 hK6 hB6 HK3 HB3
          go_wp2_with fail
          generalize (w4.setCell ⟨w1.heap.size, 0, none⟩ (.int .i64 4)).setCell ⟨w1.heap.size, 1, none⟩ (.int .i64 (-1)) = W6 at *
          refine HFF.out.mono ?_
          rintro e w7 ⟨hR, hb7⟩
          have he : e = .returned (.tuple #[.bool false, .int .i64 0, .iface 27 (.int .i64 4)]) := by
            rcases hR with ⟨h, _⟩ | ⟨_, _, h⟩ | ⟨_, h, _⟩
            · exact absurd HZ.out h
            · exact h
            · omega
          subst he
          have hK7 := HK6.out.below hb7 HK6.out.lt
          have k0 := hK7.cell 0
          have k1 := hK7.cell 1
          have hB7 : Below w.heap.size w w7 := HB6.out.trans (hb7.mono HB6.out.size)
          have HAT := at_any 4 4 (-1) (-1) (.iface 27 (.int .i64 4)) w7 (HG.out.below hB7) (Or.inr (Or.inl ⟨by decide, rfl, rfl⟩))
          rw [beq_self_eq_true, beq_self_eq_true, Bool.and_self] at HAT
          have HATT := Lib.hid HAT
          have HB7 := Lib.hid hB7
          clear hR hb7 HFF HAT hB7 hK7 HK6 HB6
          go_wp2_with fail
          refine HATT.out.mono ?_
          rintro e w8 ⟨rfl, hb8⟩
          have HB8 : Hid (Below w.heap.size w w8) := HB7.out.trans (hb8.mono HB7.out.size)
          clear hb8 HATT HB7
          go_wp2
          go_ret
          exact ⟨by first | rfl | simp, HB8.out⟩
        · have HFF := Lib.hid (HFO.out _ HB3.out)
          have k0 := HK3.out.cell 0
          go_wp2_with fail
          refine HFF.out.mono ?_
          rintro e w7 ⟨hR, hb7⟩
          obtain rfl : e = .returned (.tuple #[.bool B, .int .i64 k, .nilIface]) := by
            rcases hR with ⟨h, _⟩ | ⟨_, h, _⟩ | ⟨_, _, B', k', h2, hsr'⟩
            · exact absurd HZ.out h
            · omega
            · obtain ⟨rfl, rfl⟩ := hsr'.det hsr
              exact h2
          have hK7 := HK3.out.below hb7 HK3.out.lt
          have k0 := hK7.cell 0
          have k1 := hK7.cell 1
          have hB7 : Below w.heap.size w w7 := HB3.out.trans (hb7.mono HB3.out.size)
          have HAT := at_any 0 0 (-1) (-1) .nilIface w7 (HG.out.below hB7) (Or.inl ⟨rfl, rfl, rfl⟩)
          rw [beq_self_eq_true, beq_self_eq_true, Bool.and_self] at HAT
          have HATT := Lib.hid HAT
          have HB7 := Lib.hid hB7
          have ebb : (B == B) = true := by simp
          have ekk : (k == k) = true := by simp
          clear hR hb7 HFF HAT hB7 hK7 HK3 HB3 hsr
          go_wp2_with fail
          refine HATT.out.mono ?_
          rintro e w8 ⟨rfl, hb8⟩
          have HB8 : Hid (Below w.heap.size w w8) := HB7.out.trans (hb8.mono HB7.out.size)
          clear hb8 HATT HB7
          go_wp2
          go_ret
          exact ⟨by first | rfl | simp, HB8.out⟩
      · have hzz : ((checkF v l).1 == 0) = false := by simpa using hz
        have hbn := below_new w1 (.cells #[.int .i64 (checkF v l).1, .int .i64 (checkF v l).2] 41)
        have HK := Lib.hid (Blk.new w1 41 #[.int .i64 (checkF v l).1, .int .i64 (checkF v l).2])
        have HB2 : Hid (Below w.heap.size w (w1.alloc (.cells #[.int .i64 (checkF v l).1, .int .i64 (checkF v l).2] 41))) := HB1.out.trans (hbn.mono HB1.out.size)
        have HFF := HFO.out _ HB2.out
        have HZ := Lib.hid hz
        have HFR : Hid (∀ e w', ShowsAns v l pr e w' → ∃ er, e = .returned (.tuple #[.bool false, .int .i64 0, er]) ∧ ErrIs w' er (checkF v l).1 (checkF v l).2) := fun e w' h => by
          rcases h with ⟨_, h⟩ | ⟨h, _⟩ | ⟨h, _⟩
          · exact h
          · exact absurd h HZ.out
          · exact absurd h HZ.out
        have HFG := Lib.hid HFF
        generalize (checkF v l).1 = m1 at *
        generalize (checkF v l).2 = m2 at *
        clear hbn HB1 hz HFF HZ
        go_wp2_with fail
        generalize w1.alloc (.cells #[.int .i64 m1, .int .i64 m2] 41) = W2 at *
        refine HFG.out.mono ?_
        rintro e w7 ⟨hR, hb7⟩
        obtain ⟨er, rfl, her⟩ := HFR.out e w7 hR
        have hK7 := HK.out.below hb7 HK.out.lt
        have k0 := hK7.cell 0
        have k1 := hK7.cell 1
        have hB7 : Below w.heap.size w w7 := HB2.out.trans (hb7.mono HB2.out.size)
        have HAT := at_any m1 m1 m2 m2 er w7 (HG.out.below hB7) her
        rw [beq_self_eq_true, beq_self_eq_true, Bool.and_self] at HAT
        have HATT := Lib.hid HAT
        have HB7 := Lib.hid hB7
        clear hR hb7 HFG HAT hB7 hK7 HK HB2 her HFR
        go_wp2_with fail
        refine HATT.out.mono ?_
        rintro e w8 ⟨rfl, hb8⟩
        have HB8 : Hid (Below w.heap.size w w8) := HB7.out.trans (hb8.mono HB7.out.size)
        clear hb8 HATT HB7
        go_wp2
        go_ret
        exact ⟨by first | rfl | simp, HB8.out⟩
end Go.Proofs.YtcmmoinkhodjfaaDoor
