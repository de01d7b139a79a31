/- The walk of ClauseImplies. -/
import Derived.Test.YtapdeangogjbeaaClKeep
import Derived.Test.YtapdeangogjbeaaClMath
namespace Go.Proofs.Ytapdeangogjbeaa
open Go.RowKit Go.Deep

theorem holdK_one (vals : Nat) (x : Int) : holdK vals [x] = litK vals x := by unfold holdK; simp
theorem holds_one (x : Int) (vals : Nat) (hv : vals < 18446744073709551616) (W : World) :
    Calls Try.prog 11 #[.slice (some ⟨W.heap.size, 0, none⟩) 1 1, .int .u64 (vals : Int)] (W.alloc (.cells #[.int .i64 x] 3)) fun e w' => e = .returned (.bool (litK vals x)) ∧ Below W.heap.size W w' := by
  have h := holds_any [x] (some ⟨W.heap.size, 0, none⟩) 1 vals hv (W.alloc (.cells #[.int .i64 x] 3)) (fun i hi => ⟨_, rfl, by simp, by
    obtain rfl : i = 0 := by simp at hi; omega
    rw [add_plain]; simp⟩) (by simp)
  rw [holdK_one] at h
  exact h.mono fun e w' ⟨he, hb⟩ => ⟨he, (below_new W _).trans (hb.mono (by simp))⟩

set_option maxRecDepth 100000 in
set_option maxHeartbeats 4000000 in
theorem implies_any (v : Int) (l : List (List Int)) (a : Option Addr) (cap : Nat) (am : List Int) (a2 : Option Addr) (cap2 : Nat) (vals : Nat) (hvl : vals < 18446744073709551616) (w : World) (hI : ClsIn w a l) (hm : l.length ≤ 9223372036854775807) (hI2 : IntsIn w a2 am) (hm2 : am.length ≤ 9223372036854775807) :
    Calls Try.prog 4 #[.int .i64 v, .slice a l.length cap, .slice a2 am.length cap2, .int .u64 (vals : Int)] w fun e w' => e = .returned (.bool true) ∧ Below w.heap.size w w' := by
  have HFW := Lib.hid (few_any v 200 l a cap w hI hm)
  have HFO := Lib.hid (follows_any v l a cap am a2 cap2 w hI hm hI2 hm2)
  have HI := Lib.hid hI
  have HI2 := Lib.hid hI2
  have HSO : Hid (∀ W : World, Calls Try.prog 7 #[] W fun e w' => e = .returned (.bool true) ∧ Below W.heap.size W w') := solves_any
  have HH1 : Hid (∀ (x : Int) (W : World), Calls Try.prog 11 #[.slice (some ⟨W.heap.size, 0, none⟩) 1 1, .int .u64 (vals : Int)] (W.alloc (.cells #[.int .i64 x] 3)) fun e w' => e = .returned (.bool (litK vals x)) ∧ Below W.heap.size W w') := fun x W => holds_one x vals hvl W
  clear hI hI2
  go_enter Try.func4, Try.ntmps4
  go_wp2_with fail
  refine HFW.out.mono ?_
  rintro e w1 ⟨⟨B, rfl⟩, rfl⟩
  clear HFW
  cases B with
  | false =>
    go_wp2
    go_ret
    exact ⟨rfl, Below.refl _ _⟩
  | true =>
    by_cases h30 : 30 < am.length
    · go_wp2
      go_ret
      exact ⟨rfl, Below.refl _ _⟩
    · go_wp2_with fail
      refine HFO.out.mono ?_
      rintro e w1 ⟨hF, hb1⟩
      clear HFO
      have HS1 := Lib.hid (HSO.out w1)
      have HB1 := Lib.hid hb1
      clear hb1
      rcases hF with ⟨hz, er, rfl, her⟩ | ⟨hz, has, rfl⟩ | ⟨hz, told, t, b, ta, tc, has, hsp, rfl, hti, hco, hli, htl⟩
      · obtain ⟨tt, uu, rfl⟩ : ∃ t u, er = .iface t u := by
          rcases her with h | h | ⟨_, b, _, h, _⟩
          · exact absurd h.1 hz
          · exact ⟨_, _, h.2.2⟩
          · exact ⟨_, _, h⟩
        clear her hz
        go_wp2_with fail
        refine HS1.out.mono ?_
        rintro e w2 ⟨rfl, hb2⟩
        have HB2 : Hid (Below w.heap.size w w2) := HB1.out.trans (hb2.mono HB1.out.size)
        have HS2 := Lib.hid (HSO.out w2)
        clear hb2 HS1
        go_wp2_with fail
        refine HS2.out.mono ?_
        rintro e w3 ⟨rfl, hb3⟩
        have HB3 : Hid (Below w.heap.size w w3) := HB2.out.trans (hb3.mono HB2.out.size)
        clear hb3 HS2
        go_wp2
        go_ret
        exact ⟨by first | rfl | simp, HB3.out⟩
      · clear has hz
        go_wp2_with fail
        refine HS1.out.mono ?_
        rintro e w2 ⟨rfl, hb2⟩
        have HB2 : Hid (Below w.heap.size w w2) := HB1.out.trans (hb2.mono HB1.out.size)
        have HS2 := Lib.hid (HSO.out w2)
        clear hb2 HS1
        go_wp2_with fail
        refine HS2.out.mono ?_
        rintro e w3 ⟨rfl, hb3⟩
        have HB3 : Hid (Below w.heap.size w w3) := HB2.out.trans (hb3.mono HB2.out.size)
        clear hb3 HS2
        go_wp2
        go_ret
        exact ⟨by first | rfl | simp, HB3.out⟩
      · obtain ⟨hv0, hv1, hl200, hls, -, -⟩ := check_fine hz
        have h24 : LitsL 24 l := fun c hc x hx => lit_24 hv1 (hls c hc x hx)
        have HSND : Hid ((∀ x ∈ am, litK vals x = true) → allK vals l = true → (∀ x ∈ t, litK vals x = true) ∧ b < 0) := fun h1 h2 => by
          have ht : Sat vals told := fun x hx => by
            rcases assume_sub has x hx with h | h
            · cases h
            · have := h1 x h
              unfold litK at this
              rw [Bool.and_eq_true] at this
              exact this.2
          have hg := hsp.good hls hco hli
          obtain ⟨h3, h4⟩ := hsp.sound hls hco hli (satL_of h2) ht
          exact ⟨fun x hx => by unfold litK; rw [lit_24 hv1 (hg.2 x hx), h3 x hx]; rfl, h4⟩
        have HTI := Lib.hid hti
        clear has hsp hco hli hz hls h24 hti
        go_wp2_with fail
        refine HS1.out.mono ?_
        rintro e w2 ⟨rfl, hb2⟩
        have HB2 : Hid (Below w.heap.size w w2) := HB1.out.trans (hb2.mono HB1.out.size)
        have HTI2 := Lib.hid (HTI.out.below hb2)
        clear hb2 HS1 HTI HB1
        go_wp2_with fail
        go_loopw [12] (fun kV wr => ∃ k : Nat, k ≤ am.length ∧ kV = .int .i64 (k : Int) ∧ (∀ j, j < k → litK vals (am.getD j 0) = true) ∧ Below w.heap.size w wr ∧ IntsIn wr ta t) (fun kV _ => am.length - (intOf kV).toNat)
        case atStart => exact ⟨0, Nat.zero_le _, rfl, fun j h => by omega, HB2.out, HTI2.out⟩
        case round =>
          obtain ⟨k, hk, rfl, h1, hbr, htr⟩ := hrel
          have H1 := Lib.hid h1
          have HBR := Lib.hid hbr
          have HTR := Lib.hid htr
          clear h1 hbr htr HB2 HTI2
          by_cases hlt : k < am.length
          · obtain ⟨ad, rfl, hl', hc⟩ := HI2.out.below HBR.out k hlt
            generalize hx : am.getD k 0 = x at *
            have HX := Lib.hid hx
            have HC := Lib.hid (HH1.out x wr)
            clear hx
            cases hp : litK vals x with
            | false =>
              rw [hp] at HC
              clear hp
              go_wp2_with fail
              refine HC.out.mono ?_
              rintro e w3 ⟨rfl, hb3⟩
              have HB3 : Hid (Below w.heap.size w w3) := HBR.out.trans (hb3.mono HBR.out.size)
              clear hb3 HC
              go_wp2
              go_ret
              exact ⟨rfl, HB3.out⟩
            | true =>
              rw [hp] at HC
              have HP := Lib.hid hp
              clear hp
              go_wp2_with fail
              refine HC.out.mono ?_
              rintro e w3 ⟨rfl, hb3⟩
              have HB3 : Hid (Below w.heap.size w w3) := HBR.out.trans (hb3.mono HBR.out.size)
              have HT3 := Lib.hid (HTR.out.below hb3)
              clear hb3 HC
              go_wp2
              go_roundw
              case rel => exact ⟨k + 1, hlt, by go_num, fun j hj => (by
                rcases Nat.lt_succ_iff_lt_or_eq.1 hj with e | e
                · exact H1.out j e
                · rw [e, HX.out]; exact HP.out), HB3.out, HT3.out⟩
              case measure => simp [intOf]; omega
          · obtain rfl : k = am.length := by omega
            have hall : ∀ x ∈ am, litK vals x = true := fun x hx => by
              obtain ⟨j, hj, rfl⟩ := List.getElem_of_mem hx
              have := H1.out j hj
              rw [List.getD_eq_getElem?_getD, List.getElem?_eq_getElem hj] at this
              simpa using this
            have HA := Lib.hid (allHold_any l a cap vals hvl wr (HI.out.below HBR.out) hm)
            have HSN2 : Hid (allK vals l = true → (∀ x ∈ t, litK vals x = true) ∧ b < 0) := HSND.out hall
            clear hall H1 HSND
            cases hA : allK vals l with
            | false =>
              rw [hA] at HA
              clear hA
              go_wp2_with fail
              refine HA.out.mono ?_
              rintro e w3 ⟨rfl, hb3⟩
              have HB3 : Hid (Below w.heap.size w w3) := HBR.out.trans (hb3.mono HBR.out.size)
              clear hb3 HA
              go_wp2
              go_ret
              exact ⟨rfl, HB3.out⟩
            | true =>
              rw [hA] at HA
              obtain ⟨htt, hb0⟩ := HSN2.out hA
              have HTT := Lib.hid htt
              clear hA htt HSN2
              go_wp2_with fail
              refine HA.out.mono ?_
              rintro e w3 ⟨rfl, hb3⟩
              have HB3 : Hid (Below w.heap.size w w3) := HBR.out.trans (hb3.mono HBR.out.size)
              have HT3 := Lib.hid (HTR.out.below hb3)
              clear hb3 HA HBR HTR
              go_wp2_with fail
              go_loopw [13] (fun kV wr => ∃ k : Nat, k ≤ t.length ∧ kV = .int .i64 (k : Int) ∧ Below w.heap.size w wr ∧ IntsIn wr ta t) (fun kV _ => t.length - (intOf kV).toNat)
              case atStart => exact ⟨0, Nat.zero_le _, rfl, HB3.out, HT3.out⟩
              case round =>
                obtain ⟨k, hk2, rfl, hbr, htr⟩ := hrel
                have HBR := Lib.hid hbr
                have HTR := Lib.hid htr
                clear hbr htr HB3 HT3
                by_cases hlt2 : k < t.length
                · obtain ⟨ad, rfl, hl', hc⟩ := HTR.out k hlt2
                  have hp := HTT.out _ (getD_mem (d := 0) hlt2)
                  generalize hx : t.getD k 0 = x at *
                  have HC := Lib.hid (HH1.out x wr)
                  rw [hp] at HC
                  clear hx hp
                  go_wp2_with fail
                  refine HC.out.mono ?_
                  rintro e w4 ⟨rfl, hb4⟩
                  have HB4 : Hid (Below w.heap.size w w4) := HBR.out.trans (hb4.mono HBR.out.size)
                  have HT4 := Lib.hid (HTR.out.below hb4)
                  clear hb4 HC
                  go_wp2
                  go_roundw
                  case rel => exact ⟨k + 1, hlt2, by go_num, HB4.out, HT4.out⟩
                  case measure => simp [intOf]; omega
                · obtain rfl : k = t.length := by omega
                  go_wp2
                  go_ret
                  exact ⟨rfl, HBR.out⟩
end Go.Proofs.Ytapdeangogjbeaa
