/- The walk of ClauseHolds. -/
import Derived.Test.YtapdeangogjbeaaDoorClRCheck
import Derived.Test.YtapdeangogjbeaaDoorClFew
namespace Go.Proofs.YtapdeangogjbeaaDoor
open Go.RowKit

set_option maxRecDepth 100000 in
set_option maxHeartbeats 4000000 in
theorem cholds_any (v : Int) (l : List (List Int)) (a : Option Addr) (cap : Nat) (vals : Nat) (hvl : vals < 18446744073709551616) (w : World) (hI : ClsIn w a l) (hm : l.length ≤ 9223372036854775807) (hg : Glob w) (hF : Fine w) :
    Calls Tryd.prog 3 #[.int .i64 v, .slice a l.length cap, .int .u64 (vals : Int)] w fun e w' => e = .returned (.bool true) ∧ Below w.heap.size w w' := by
  have HI := Lib.hid hI
  have HG := Lib.hid hg
  have HFN := Lib.hid hF
  have HFW := Lib.hid (few_any v 600 l a cap w hI hm)
  have HCH := Lib.hid (check_any v l a cap w hI hm)
  clear hI hg hF
  go_enter Tryd.func3, Tryd.ntmps3
  go_wp2_with fail
  refine HFW.out.mono ?_
  rintro e w1 ⟨⟨B, rfl⟩, rfl⟩
  clear HFW
  cases B with
  | false =>
    go_wp2
    go_ret
    exact ⟨rfl, Below.refl _ _⟩
  | true =>
    go_wp2_with fail
    refine HCH.out.mono ?_
    rintro e w1 ⟨er, rfl, her, hb1⟩
    have HR := Lib.hid (rcheck_any v l a cap w1 (HI.out.below hb1) hm (HFN.out.below hb1))
    have HER := Lib.hid her
    have HB1 := Lib.hid hb1
    clear her hb1 HCH
    go_wp2_with fail
    refine HR.out.mono ?_
    rintro e w2 ⟨rfl, hb2⟩
    have hb12 : Below w.heap.size w w2 := HB1.out.trans (hb2.mono HB1.out.size)
    have HAT := Lib.hid (at_any _ (checkF v l).1 _ (checkF v l).2 er w2 (HG.out.below hb12) (HER.out.below hb2))
    rw [beq_self_eq_true, beq_self_eq_true, Bool.and_self] at HAT
    have HB2 := Lib.hid hb12
    clear hb2 hb12 HER HR
    generalize (checkF v l).1 = m1 at *
    generalize (checkF v l).2 = m2 at *
    go_wp2_with fail
    refine HAT.out.mono ?_
    rintro e w3 ⟨rfl, hb3⟩
    have HB3 : Hid (Below w.heap.size w w3) := HB2.out.trans (hb3.mono HB2.out.size)
    clear hb3 HAT HB1 HB2
    go_wp2_with fail
    go_loopw [7] (fun kV wr => ∃ k : Nat, k ≤ l.length ∧ kV = .int .i64 (k : Int) ∧ (∀ j, j < k → ∀ x ∈ l.getD j [], litB 24 x = true) ∧ Below w.heap.size w wr) (fun kV _ => l.length - (intOf kV).toNat)
    case atStart => exact ⟨0, Nat.zero_le _, rfl, fun j h => by omega, HB3.out⟩
    case round =>
      obtain ⟨k, hk, rfl, h1, hbr⟩ := hrel
      have H1 := Lib.hid h1
      have HBR := Lib.hid hbr
      clear h1 hbr HB3
      by_cases hlt : k < l.length
      · obtain ⟨ad, a', cap', rfl, hl', hc, g1, g2, g3⟩ := HI.out.below HBR.out k hlt
        have hcl : Hid (∀ X, Below wr.heap.size wr X → X.cell? (ad.add k) = some (.slice a' (l.getD k []).length cap')) := fun X hX => (hX.cell (by rw [addr_block]; exact hl')).trans hc
        have HRT := Lib.hid (right_any (l.getD k []) a' cap' wr g3 (by omega))
        have HH : Hid (∀ X, Below wr.heap.size wr X → Calls Tryd.prog 11 #[.slice a' (l.getD k []).length cap', .int .u64 (vals : Int)] X fun e w' => e = .returned (.bool (holdK vals (l.getD k []))) ∧ Below X.heap.size X w') := fun X hX => holds_any _ a' cap' vals hvl X (g3.below hX) (by omega)
        have HK : Hid ((∀ x ∈ l.getD k [], litB 24 x = true) → ∀ X, Below wr.heap.size wr X → Calls Tryd.prog 12 #[.slice a' (l.getD k []).length cap', .int .u64 (vals : Int)] X fun e w' => e = .returned (.bool (holdK vals (l.getD k []))) ∧ X = w') := fun hr X hX => by
          rw [holdK_of hr]
          exact rholds_any _ a' cap' vals hvl X (g3.below hX) (by omega) hr
        generalize hx : l.getD k [] = c at *
        have HX := Lib.hid hx
        clear hx g3 hl'
        go_wp2_with fail
        refine HRT.out.mono ?_
        rintro e w1 ⟨⟨B, rfl, hB⟩, rfl⟩
        clear HRT
        cases B with
        | false =>
          go_wp2
          go_ret
          exact ⟨rfl, HBR.out⟩
        | true =>
          have hr := hB rfl
          have HQ := Lib.hid (HK.out hr)
          have HR := Lib.hid hr
          clear hB hr HK
          have B0 : Below wr.heap.size wr wr.drew := (Below.refl _ _).drew
          have S0 := hcl.out _ B0
          generalize hz : holdK vals c = z at *
          have enn : (z != z) = false := by simp
          clear hz
          go_wp2_with fail
          go_region_held3 (fun X => X.cell? (ad.add k) = some (.slice a' c.length cap')) (first | exact S0 | exact S1 | exact S2)
            (first
              | (go_at_call 11; refine (HH.out _ B0).mono ?_; rintro e w4 ⟨rfl, hb4⟩; have B1 := B0.trans (hb4.mono B0.size); have S1 := hcl.out _ B1; clear HH)
              | (go_at_call 11; refine (HH.out _ B2).mono ?_; rintro e w4 ⟨rfl, hb4⟩; have B1 := B2.trans (hb4.mono B2.size); have S1 := hcl.out _ B1; clear HH)
              | (go_at_call 12; refine (HQ.out _ B1).mono ?_; rintro e w5 ⟨rfl, rfl⟩; have B2 := B1; have S2 := S1; clear HQ)
              | (go_at_call 12; refine (HQ.out _ B0).mono ?_; rintro e w5 ⟨rfl, rfl⟩; have B2 := B0; have S2 := S0; clear HQ))
          all_goals
            have HBX : Hid (Below w.heap.size w w4) := HBR.out.trans (B1.mono HBR.out.size)
            clear B0 B1 S0
            go_wp2
            go_roundw
            case rel => exact ⟨k + 1, hlt, by go_num, fun j hj => (by
              rcases Nat.lt_succ_iff_lt_or_eq.1 hj with e | e
              · exact H1.out j e
              · rw [e, HX.out]; exact HR.out), HBX.out⟩
            case measure => simp [intOf]; omega
      · obtain rfl : k = l.length := by omega
        have hr : ∀ c ∈ l, ∀ x ∈ c, litB 24 x = true := fun c hc => by
          obtain ⟨j, hj, rfl⟩ := List.getElem_of_mem hc
          have := H1.out j hj
          rw [List.getD_eq_getElem?_getD, List.getElem?_eq_getElem hj] at this
          simpa using this
        have HA := Lib.hid (allHold_any l a cap vals hvl wr (HI.out.below HBR.out) hm)
        have HA2 : Hid (∀ X, Below wr.heap.size wr X → _) := fun X hX => rallHold_any l a cap vals hvl X ((HI.out.below HBR.out).below hX) hm hr
        generalize allK vals l = z at *
        have ezz : (z == z) = true := by simp
        clear hr
        go_wp2_with fail
        refine HA.out.mono ?_
        rintro e w4 ⟨rfl, hb4⟩
        have HB4 : Hid (Below w.heap.size w w4) := HBR.out.trans (hb4.mono HBR.out.size)
        have HQ := Lib.hid (HA2.out _ hb4)
        clear HA HA2 hb4
        go_wp2_with fail
        refine HQ.out.mono ?_
        rintro e w5 ⟨rfl, rfl⟩
        go_wp2
        go_ret
        exact ⟨by first | rfl | simp, HB4.out⟩
end Go.Proofs.YtapdeangogjbeaaDoor
