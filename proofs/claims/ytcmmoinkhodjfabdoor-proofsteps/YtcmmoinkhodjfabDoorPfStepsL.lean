/- The walk of ProofSteps. -/
import Derived.Test.YtcmmoinkhodjfabDoorPfFollow
import Derived.Test.YtcmmoinkhodjfabDoorPfRobM
import Derived.Test.YtcmmoinkhodjfabDoorPfShown
namespace Go.Proofs.YtcmmoinkhodjfabDoor
open Go.RowKit Go.Deep

theorem step_lits {K : List (List Int)} {s : Stp} : Lits 24 (stepK K s).2 := by
  unfold stepK
  split
  · exact res_lits
  · exact lits_nil _
/-- What steps tell is so. -/
theorem fol_sound {l : List (List Int)} {st : List Stp} {vals : Nat} (hl : LitsL 24 l) (hs : allK vals l = true) : ∀ {k : Nat} {K : List (List Int)}, folK l st k = some K → LitsL 24 K ∧ ∀ c ∈ K, holdK vals c = true
  | 0, K, h => by
    simp [folK] at h
    subst h
    exact ⟨hl, fun c hc => by unfold allK at hs; exact List.all_eq_true.1 hs c hc⟩
  | k + 1, K, h => by
    unfold folK at h
    cases hk : folK l st k with
    | none => rw [hk] at h; cases h
    | some K' =>
      rw [hk] at h
      simp only at h
      split at h
      · rename_i h0
        simp only [Option.some.injEq] at h
        subst h
        obtain ⟨h1, h2⟩ := fol_sound hl hs hk
        have hsl := step_lits (K := K') (s := st.getD k ⟨0, 0, 0⟩)
        have hsh : holdK vals (stepK K' (st.getD k ⟨0, 0, 0⟩)).2 = true := by
          generalize st.getD k ⟨0, 0, 0⟩ = s at *
          unfold stepK at h0 ⊢
          split at h0
          · rename_i hc
            rw [if_pos hc]
            have ha : K'.getD s.a.toNat [] ∈ K' := getD_mem (by omega)
            have hb : K'.getD s.b.toNat [] ∈ K' := getD_mem (by omega)
            exact robinson (h1 _ ha) (h1 _ hb) (Prod.ext h0 rfl) (h2 _ ha) (h2 _ hb)
          · cases h0
        refine ⟨fun c hc => ?_, fun c hc => ?_⟩
        · rcases List.mem_append.1 hc with hc | hc
          · exact h1 c hc
          · rw [List.mem_singleton] at hc; subst hc; exact hsl
        · rcases List.mem_append.1 hc with hc | hc
          · exact h2 c hc
          · rw [List.mem_singleton] at hc; subst hc; exact hsh
      · cases h

set_option maxRecDepth 100000 in
set_option maxHeartbeats 4000000 in
theorem psteps_any (v : Int) (l : List (List Int)) (st : List Stp) (vals : Nat) (hvl : vals < 18446744073709551616) (a1 a2 : Option Addr) (c1 c2 : Nat) (hn : a1 = none → c1 = 0) (w : World) (hI : ClsIn w a1 l) (hm : l.length ≤ 9223372036854775807) (hI2 : StpsIn w a2 st) (hm2 : st.length ≤ 9223372036854775807) (hg : Glob w) :
    Calls Tryd.prog 5 #[.int .i64 v, .slice a1 l.length c1, .slice a2 st.length c2, .int .u64 (vals : Int)] w fun e w' => e = .returned (.bool true) ∧ Below w.heap.size w w' := by
  have HF1 := Lib.hid (few_any v 150 l a1 c1 w hI hm)
  have HFO := Lib.hid (follow_any v l st a1 a2 c1 c2 hn w hI hm hI2 hm2 hg)
  have HI := Lib.hid hI
  have HSH : Hid (∀ W : World, Calls Tryd.prog 9 #[] W fun e w' => e = .returned (.bool true) ∧ Below W.heap.size W w') := shown_any
  clear hI hI2 hg hn
  go_enter Tryd.func5, Tryd.ntmps5
  go_wp2_with fail
  refine HF1.out.mono ?_
  rintro e w1 ⟨⟨B, rfl⟩, rfl⟩
  clear HF1
  cases B with
  | false =>
    go_wp2
    go_ret
    exact ⟨rfl, Below.refl _ _⟩
  | true =>
    by_cases h40 : 40 < st.length
    · go_wp2
      go_ret
      exact ⟨rfl, Below.refl _ _⟩
    · go_wp2_with fail
      refine HFO.out.mono ?_
      rintro e w1 ⟨hans, hb1⟩
      have HB1 := Lib.hid hb1
      have HS1 := Lib.hid (HSH.out w1)
      have hform : (∃ t u, e = .returned (.tuple #[.slice none 0 0, .iface t u])) ∨ ((checkF v l).1 = 0 ∧ ∃ o a c, e = .returned (.tuple #[.slice a o.length c, .nilIface]) ∧ ClsIn w1 a o ∧ folK l st st.length = some (l ++ o)) := by
        rcases hans with ⟨hz, er, he, her⟩ | ⟨_, _, he⟩ | ⟨hz, _, m, p, o, hfr, ⟨hm, er, he, her⟩ | ⟨hm, _, a, c, he, hc, hf⟩⟩
        · obtain ⟨t, u, rfl⟩ := err_form her hz
          exact Or.inl ⟨t, u, he⟩
        · exact Or.inl ⟨_, _, he⟩
        · obtain ⟨t, u, rfl⟩ := err_form her hm
          exact Or.inl ⟨t, u, he⟩
        · exact Or.inr ⟨hz, o, a, c, he, hc, hf⟩
      clear hans hb1 HFO
      rcases hform with ⟨tt, uu, rfl⟩ | ⟨hz, o, oa, oc, rfl, hoc, hf⟩
      · go_wp2_with fail
        refine HS1.out.mono ?_
        rintro e w2 ⟨rfl, hb2⟩
        have HB2 : Hid (Below w.heap.size w w2) := HB1.out.trans (hb2.mono HB1.out.size)
        have HS2 := Lib.hid (HSH.out w2)
        clear hb2 HS1
        go_wp2_with fail
        refine HS2.out.mono ?_
        rintro e w3 ⟨rfl, hb3⟩
        have HB3 : Hid (Below w.heap.size w w3) := HB2.out.trans (hb3.mono HB2.out.size)
        clear hb3 HS2
        go_wp2
        go_ret
        exact ⟨by first | rfl | simp, HB3.out⟩
      · obtain ⟨hv0, hv1, hl200, hls, -, -⟩ := check_fine hz
        have h24 : LitsL 24 l := fun c hc x hx => lit_24 hv1 (hls c hc x hx)
        have hol : o.length = st.length := by
          have := (folK_len hf).1
          rw [List.length_append] at this
          omega
        have HSND : Hid (allK vals l = true → ∀ c ∈ o, holdK vals c = true) := fun h c hc => (fol_sound h24 h hf).2 c (List.mem_append_right _ hc)
        have HOC := Lib.hid hoc
        clear hls h24 hf hoc hz
        go_wp2_with fail
        refine HS1.out.mono ?_
        rintro e w2 ⟨rfl, hb2⟩
        have HB2 : Hid (Below w.heap.size w w2) := HB1.out.trans (hb2.mono HB1.out.size)
        have HOC2 := Lib.hid (HOC.out.below hb2)
        have hob : o.length ≤ 40 := by omega
        rw [← hol] at *
        clear hb2 HS1 HOC hol
        go_wp2_with fail
        go_loopw [11] (fun kV wr => ∃ k : Nat, k ≤ o.length ∧ kV = .int .i64 (k : Int) ∧ Below w.heap.size w wr ∧ ClsIn wr oa o) (fun kV _ => o.length - (intOf kV).toNat)
        case atStart => exact ⟨0, Nat.zero_le _, rfl, HB2.out, HOC2.out⟩
        case round =>
          obtain ⟨k, hk, rfl, hbr, hocr⟩ := hrel
          have HBR := Lib.hid hbr
          have HOCR := Lib.hid hocr
          clear hbr hocr HB2 HOC2
          by_cases hlt : k < o.length
          · have HA := Lib.hid (allHold_any l a1 c1 vals hvl wr (HI.out.below HBR.out) hm)
            cases hA : allK vals l with
            | false =>
              rw [hA] at HA
              clear hA
              go_wp2_with fail
              refine HA.out.mono ?_
              rintro e w3 ⟨rfl, hb3⟩
              have HB3 : Hid (Below w.heap.size w w3) := HBR.out.trans (hb3.mono HBR.out.size)
              clear hb3 HA
              go_wp2
              go_ret
              exact ⟨rfl, HB3.out⟩
            | true =>
              rw [hA] at HA
              have hh := HSND.out hA _ (getD_mem (d := []) hlt)
              clear hA
              go_wp2_with fail
              refine HA.out.mono ?_
              rintro e w3 ⟨rfl, hb3⟩
              have HB3 : Hid (Below w.heap.size w w3) := HBR.out.trans (hb3.mono HBR.out.size)
              have HOC3 := Lib.hid (HOCR.out.below hb3)
              clear hb3 HA HBR HOCR
              obtain ⟨ad, a', cap', rfl, hl', hc, g1, g2, g3⟩ := HOC3.out k hlt
              have HH := Lib.hid (holds_any (o.getD k []) a' cap' vals hvl w3 g3 (by omega))
              rw [hh] at HH
              generalize o.getD k [] = c at *
              clear g3 hh
              go_wp2_with fail
              refine HH.out.mono ?_
              rintro e w4 ⟨rfl, hb4⟩
              have HB4 : Hid (Below w.heap.size w w4) := HB3.out.trans (hb4.mono HB3.out.size)
              have HOC4 := Lib.hid (HOC3.out.below hb4)
              clear hb4 HH HB3 HOC3
              go_wp2
              go_roundw
              case rel => exact ⟨k + 1, hlt, by go_num, HB4.out, HOC4.out⟩
              case measure => simp [intOf]; omega
          · obtain rfl : k = o.length := by omega
            go_wp2
            go_ret
            exact ⟨rfl, HBR.out⟩
end Go.Proofs.YtcmmoinkhodjfabDoor
