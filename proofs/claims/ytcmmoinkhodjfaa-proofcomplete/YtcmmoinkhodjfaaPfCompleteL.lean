/- The walk of ProofComplete. -/
import Derived.Test.YtcmmoinkhodjfaaPfShown
import Derived.Test.YtcmmoinkhodjfaaPfSound
import Derived.Test.YtcmmoinkhodjfaaClSolve
namespace Go.Proofs.Ytcmmoinkhodjfaa
open Go.RowKit Go.Deep

/-- What Solve tells, as the law looks at it. -/
theorem solve_form {v : Int} {l : List (List Int)} {e : Ending} {w' : World} (h : SolveR v l e w') :
    (∃ b n a c t u, e = .returned (.tuple #[.agg #[.bool b, .int .u64 n, .slice a 0 c], .iface t u])) ∨ (∃ n a c, e = .returned (.tuple #[.agg #[.bool true, .int .u64 n, .slice a 0 c], .nilIface])) ∨
    ∃ p a c, e = .returned (.tuple #[.agg #[.bool false, .int .u64 0, .slice a p.length c], .nilIface]) ∧ ClsIn w' a p ∧ (checkF v l).1 = 0 ∧ ShowsR v l p true p.length ∧ p.length < 5000 := by
  rcases h with ⟨hz, er, he, her⟩ | ⟨hz, r, hr, h⟩
  · obtain ⟨t, u, rfl⟩ := err_form her hz
    exact Or.inl ⟨_, _, _, _, t, u, he⟩
  · obtain ⟨hv0, hv1, hl200, hls, -, -⟩ := check_fine hz
    rcases h with ⟨t, rfl, he⟩ | ⟨p, a, c, rfl, he, hc⟩ | ⟨_, he⟩
    · exact Or.inr (Or.inl ⟨_, _, _, he⟩)
    · have hn : ((v.toNat : Nat) : Int) = v := by omega
      have hls' : LitsL (v.toNat : Int) l := by rw [hn]; exact hls
      obtain ⟨h1, h2⟩ := run_shows (by omega) hls' hr (good0 v.toNat) (invC0 _ l) p rfl
      rw [hn] at h1
      exact Or.inr (Or.inr ⟨p, a, c, he, hc, hz, h1, h2⟩)
    · exact Or.inl ⟨_, _, _, _, _, _, he⟩

set_option maxRecDepth 100000 in
set_option maxHeartbeats 2000000 in
theorem pcomplete_any (v : Int) (l : List (List Int)) (a1 : Option Addr) (c1 : Nat) (hn : a1 = none → c1 = 0) (w : World) (hI : ClsIn w a1 l) (hm : l.length ≤ 9223372036854775807) :
    Calls Try.prog 4 #[.int .i64 v, .slice a1 l.length c1] w fun e w' => e = .returned (.bool true) ∧ Below w.heap.size w w' := by
  have HF1 := Lib.hid (few_any v 150 l a1 c1 w hI hm)
  have HSO := Lib.hid (solve_any v l a1 c1 hn w hI hm)
  have HI := Lib.hid hI
  have HSH : Hid (∀ W : World, Calls Try.prog 7 #[] W fun e w' => e = .returned (.bool true) ∧ Below W.heap.size W w') := shown_any
  clear hI hn
  go_enter Try.func4, Try.ntmps4
  go_wp2_with fail
  refine HF1.out.mono ?_
  rintro e w1 ⟨⟨B, rfl⟩, rfl⟩
  clear HF1
  cases B with
  | false =>
    go_wp2
    go_ret
    exact ⟨rfl, Below.refl _ _⟩
  | true =>
    go_wp2_with fail
    refine HSO.out.mono ?_
    rintro e w1 ⟨hans, hb1⟩
    have hform := solve_form hans
    have HB1 := Lib.hid hb1
    clear hans hb1 HSO
    rcases hform with ⟨b, n, pa, pc, tt, uu, rfl⟩ | ⟨n, pa, pc, rfl⟩ | ⟨p, pa, pc, rfl, hcl, hz, hsr, hpl⟩
    · have HB2 : Hid (Below w.heap.size w (w1.alloc (.cells #[.bool b, .int .u64 n, .slice pa 0 pc] 33))) := HB1.out.alloc HB1.out.size _
      have HS1 := Lib.hid (HSH.out (w1.alloc (.cells #[.bool b, .int .u64 n, .slice pa 0 pc] 33)))
      go_wp2_with fail
      refine HS1.out.mono ?_
      rintro e w2 ⟨rfl, hb2⟩
      have HB3 : Hid (Below w.heap.size w w2) := HB2.out.trans (hb2.mono HB2.out.size)
      have HS2 := Lib.hid (HSH.out w2)
      clear hb2 HS1
      go_wp2_with fail
      refine HS2.out.mono ?_
      rintro e w3 ⟨rfl, hb3⟩
      have HB4 : Hid (Below w.heap.size w w3) := HB3.out.trans (hb3.mono HB3.out.size)
      clear hb3 HS2
      go_wp2
      go_ret
      exact ⟨by first | rfl | simp, HB4.out⟩
    · have HB2 : Hid (Below w.heap.size w (w1.alloc (.cells #[.bool true, .int .u64 n, .slice pa 0 pc] 33))) := HB1.out.alloc HB1.out.size _
      have HK := Lib.hid (Blk.new w1 33 #[.bool true, .int .u64 n, .slice pa 0 pc])
      have HS1 := Lib.hid (HSH.out (w1.alloc (.cells #[.bool true, .int .u64 n, .slice pa 0 pc] 33)))
      go_wp2_with fail
      refine HS1.out.mono ?_
      rintro e w2 ⟨rfl, hb2⟩
      have HB3 : Hid (Below w.heap.size w w2) := HB2.out.trans (hb2.mono HB2.out.size)
      have k0 := (HK.out.below hb2 HK.out.lt).cell 0
      simp at k0
      have HS2 := Lib.hid (HSH.out w2)
      clear hb2 HS1 HK
      go_wp2_with fail
      refine HS2.out.mono ?_
      rintro e w3 ⟨rfl, hb3⟩
      have HB4 : Hid (Below w.heap.size w w3) := HB3.out.trans (hb3.mono HB3.out.size)
      clear hb3 HS2
      go_wp2
      go_ret
      exact ⟨by first | rfl | simp, HB4.out⟩
    · have HB2 : Hid (Below w.heap.size w (w1.alloc (.cells #[.bool false, .int .u64 0, .slice pa p.length pc] 33))) := HB1.out.alloc HB1.out.size _
      have HK := Lib.hid (Blk.new w1 33 #[.bool false, .int .u64 0, .slice pa p.length pc])
      have HCL := Lib.hid (hcl.below (below_new w1 (.cells #[.bool false, .int .u64 0, .slice pa p.length pc] 33)))
      have HS1 := Lib.hid (HSH.out (w1.alloc (.cells #[.bool false, .int .u64 0, .slice pa p.length pc] 33)))
      have HSR := Lib.hid hsr
      have HZ := Lib.hid hz
      clear hcl hsr hz
      go_wp2_with fail
      refine HS1.out.mono ?_
      rintro e w2 ⟨rfl, hb2⟩
      have HB3 : Hid (Below w.heap.size w w2) := HB2.out.trans (hb2.mono HB2.out.size)
      have HK2 := Lib.hid (HK.out.below hb2 HK.out.lt)
      have k0 := HK2.out.cell 0
      have k2 := HK2.out.cell 2
      simp at k0 k2
      have HSW := Lib.hid (shows_any v l p a1 pa c1 pc w2 (HI.out.below HB3.out) hm (HCL.out.below hb2) (by omega))
      clear hb2 HS1 HK HCL HB2
      go_wp2_with fail
      refine HSW.out.mono ?_
      rintro e w3 ⟨hans, hb3⟩
      have HB4 : Hid (Below w.heap.size w w3) := HB3.out.trans (hb3.mono HB3.out.size)
      have m2 := (HK2.out.below hb3 HK2.out.lt).cell 2
      simp at m2
      obtain rfl : e = .returned (.tuple #[.bool true, .int .i64 (p.length : Int), .nilIface]) := by
        rcases hans with ⟨h, _⟩ | ⟨_, h, _⟩ | ⟨_, _, B, n, he, hr⟩
        · exact absurd HZ.out h
        · omega
        · obtain ⟨rfl, rfl⟩ := hr.det HSR.out
          exact he
      clear hans hb3 HSW HK2 k0 k2
      go_wp2
      go_ret
      exact ⟨by first | rfl | simp, HB4.out⟩
end Go.Proofs.Ytcmmoinkhodjfaa
