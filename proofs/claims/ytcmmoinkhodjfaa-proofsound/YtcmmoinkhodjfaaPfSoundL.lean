/- The walk of ProofSound. -/
import Derived.Test.YtcmmoinkhodjfaaPfShown
import Derived.Test.YtcmmoinkhodjfaaPfSound
namespace Go.Proofs.Ytcmmoinkhodjfaa
open Go.RowKit Go.Deep

set_option maxRecDepth 100000 in
set_option maxHeartbeats 2000000 in
theorem psound_any (v : Int) (l pr : List (List Int)) (a1 a2 : Option Addr) (c1 c2 : Nat) (vals : Nat) (hvl : vals < 18446744073709551616) (w : World) (hI : ClsIn w a1 l) (hm : l.length ≤ 9223372036854775807) (hI2 : ClsIn w a2 pr) (hm2 : pr.length ≤ 9223372036854775807) :
    Calls Try.prog 3 #[.int .i64 v, .slice a1 l.length c1, .slice a2 pr.length c2, .int .u64 (vals : Int)] w fun e w' => e = .returned (.bool true) ∧ Below w.heap.size w w' := by
  have HF1 := Lib.hid (few_any v 200 l a1 c1 w hI hm)
  have HF2 := Lib.hid (few_any v 200 pr a2 c2 w hI2 hm2)
  have HSW := Lib.hid (shows_any v l pr a1 a2 c1 c2 w hI hm hI2 hm2)
  have HI := Lib.hid hI
  have HSH : Hid (∀ W : World, Calls Try.prog 7 #[] W fun e w' => e = .returned (.bool true) ∧ Below W.heap.size W w') := shown_any
  clear hI hI2
  go_enter Try.func3, Try.ntmps3
  go_wp2_with fail
  refine HF1.out.mono ?_
  rintro e w1 ⟨⟨B, rfl⟩, rfl⟩
  clear HF1
  cases B with
  | false =>
    go_wp2
    go_ret
    exact ⟨rfl, Below.refl _ _⟩
  | true =>
    go_wp2_with fail
    refine HF2.out.mono ?_
    rintro e w1 ⟨⟨B, rfl⟩, rfl⟩
    clear HF2
    cases B with
    | false =>
      go_wp2
      go_ret
      exact ⟨rfl, Below.refl _ _⟩
    | true =>
      go_wp2_with fail
      refine HSW.out.mono ?_
      rintro e w1 ⟨hans, hb1⟩
      have HB1 := Lib.hid hb1
      have HS1 := Lib.hid (HSH.out w1)
      have hform : (∃ t u, e = .returned (.tuple #[.bool false, .int .i64 0, .iface t u])) ∨ ((checkF v l).1 = 0 ∧ ∃ B n, e = .returned (.tuple #[.bool B, .int .i64 n, .nilIface]) ∧ ShowsR v l pr B n) := by
        rcases hans with ⟨hz, er, he, her⟩ | ⟨_, _, he⟩ | ⟨hz, _, h⟩
        · obtain ⟨t, u, rfl⟩ := err_form her hz
          exact Or.inl ⟨t, u, he⟩
        · exact Or.inl ⟨_, _, he⟩
        · exact Or.inr ⟨hz, h⟩
      clear hans hb1 HSW
      rcases hform with ⟨tt, uu, rfl⟩ | ⟨hz, B, n, rfl, hsr⟩
      · go_wp2_with fail
        refine HS1.out.mono ?_
        rintro e w2 ⟨rfl, hb2⟩
        have HB2 : Hid (Below w.heap.size w w2) := HB1.out.trans (hb2.mono HB1.out.size)
        have HS2 := Lib.hid (HSH.out w2)
        clear hb2 HS1
        go_wp2_with fail
        refine HS2.out.mono ?_
        rintro e w3 ⟨rfl, hb3⟩
        have HB3 : Hid (Below w.heap.size w w3) := HB2.out.trans (hb3.mono HB2.out.size)
        clear hb3 HS2
        go_wp2
        go_ret
        exact ⟨by first | rfl | simp, HB3.out⟩
      · obtain ⟨hv0, hv1, hl200, hls, -, -⟩ := check_fine hz
        have HNS : Hid (B = true → allK vals l = false) := fun hB => by
          cases h : allK vals l with
          | false => rfl
          | true =>
            subst hB
            exact (shows_sound hls hsr (satL_of h)).elim
        clear hsr hls hz
        go_wp2_with fail
        refine HS1.out.mono ?_
        rintro e w2 ⟨rfl, hb2⟩
        have HB2 : Hid (Below w.heap.size w w2) := HB1.out.trans (hb2.mono HB1.out.size)
        clear hb2 HS1
        cases B with
        | false =>
          go_wp2
          go_ret
          exact ⟨by first | rfl | simp, HB2.out⟩
        | true =>
          have HA := Lib.hid (allHold_any l a1 c1 vals hvl w2 (HI.out.below HB2.out) hm)
          rw [HNS.out rfl] at HA
          clear HNS
          go_wp2_with fail
          refine HA.out.mono ?_
          rintro e w3 ⟨rfl, hb3⟩
          have HB3 : Hid (Below w.heap.size w w3) := HB2.out.trans (hb3.mono HB2.out.size)
          clear hb3 HA
          go_wp2
          go_ret
          exact ⟨by first | rfl | simp, HB3.out⟩
end Go.Proofs.Ytcmmoinkhodjfaa
