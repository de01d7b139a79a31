/- The reference's Check. -/
import Derived.Test.YtcmmoinkhodjfaaDoorClWithin
import Derived.Test.YtcmmoinkhodjfaaDoorErAt
namespace Go.Proofs.YtcmmoinkhodjfaaDoor
open Go.RowKit

/-- solspaceref.Fine is laid as the program's text lays it. -/
structure Fine (w : World) : Prop where
  c0 : w.cell? ⟨0, 0, none⟩ = some (.int .i64 0)
  c1 : w.cell? ⟨0, 1, none⟩ = some (.int .i64 (-1))
theorem Fine.lt {w : World} (h : Fine w) : 0 < w.heap.size := by
  rcases Nat.lt_or_ge 0 w.heap.size with h1 | h1
  · exact h1
  · have := h.c0
    simp [World.cell?, Array.getElem?_eq_none h1] at this
theorem Fine.below {w w' : World} (h : Fine w) (hb : Below w.heap.size w w') : Fine w' := ⟨(hb.cell (p := ⟨0, 0, none⟩) h.lt).trans h.c0, (hb.cell (p := ⟨0, 1, none⟩) h.lt).trans h.c1⟩

def rres (m pl : Int) : Value := .agg #[.int .i64 m, .int .i64 pl]

/-- A struct of two that the call returns by its own block. -/
theorem ret_two {w w1 : World} (hb : Below (w.heap.size + 1) (w.alloc (.cells #[.int .i64 0, .int .i64 0] 41)) w1) :
    w1.cell? ⟨w.heap.size, 0, none⟩ = some (.int .i64 0) ∧ w1.cell? ⟨w.heap.size, 1, none⟩ = some (.int .i64 0) ∧ w1.frozen? ⟨w.heap.size, 0, none⟩ = false ∧ w1.frozen? ⟨w.heap.size, 1, none⟩ = false := by
  refine ⟨(hb.cell (p := ⟨w.heap.size, 0, none⟩) (by simp)).trans (by simp), (hb.cell (p := ⟨w.heap.size, 1, none⟩) (by simp)).trans (by simp), (hb.frozen (p := ⟨w.heap.size, 0, none⟩) (by simp)).trans (by simp), (hb.frozen (p := ⟨w.heap.size, 1, none⟩) (by simp)).trans (by simp)⟩

theorem put_two {w w1 : World} (m pl : Int) (hb : Below (w.heap.size + 1) (w.alloc (.cells #[.int .i64 0, .int .i64 0] 41)) w1) :
    ((w1.setCell ⟨w.heap.size, 0, none⟩ (.int .i64 m)).cell? ⟨w.heap.size, 1, none⟩ = some (.int .i64 0) ∧ (w1.setCell ⟨w.heap.size, 0, none⟩ (.int .i64 m)).frozen? ⟨w.heap.size, 1, none⟩ = false) ∧
    ((w1.setCell ⟨w.heap.size, 0, none⟩ (.int .i64 m)).setCell ⟨w.heap.size, 1, none⟩ (.int .i64 pl)).cell? ⟨w.heap.size, 0, none⟩ = some (.int .i64 m) ∧
    ((w1.setCell ⟨w.heap.size, 0, none⟩ (.int .i64 m)).setCell ⟨w.heap.size, 1, none⟩ (.int .i64 pl)).cell? ⟨w.heap.size, 1, none⟩ = some (.int .i64 pl) ∧
    Below w.heap.size w ((w1.setCell ⟨w.heap.size, 0, none⟩ (.int .i64 m)).setCell ⟨w.heap.size, 1, none⟩ (.int .i64 pl)) := by
  obtain ⟨h0, h1, h2, h3⟩ := ret_two hb
  have e1 : (w1.setCell ⟨w.heap.size, 0, none⟩ (.int .i64 m)).cell? ⟨w.heap.size, 1, none⟩ = some (.int .i64 0) := by rw [World.cell?_setCell_other _ _ _ _ (by simp)]; exact h1
  refine ⟨⟨e1, by rw [World.frozen?_setCell]; exact h3⟩, ?_, World.cell?_setCell_same' _ _ _ (by rw [e1]; rfl), ?_⟩
  · rw [World.cell?_setCell_other _ _ _ _ (by simp)]
    exact World.cell?_setCell_same' _ _ _ (by rw [h0]; rfl)
  · have hb0 : Below w.heap.size w w1 := (below_new w _).trans (hb.mono (by omega))
    exact (hb0.setCell (Nat.le_refl _) _).setCell (Nat.le_refl _) _

set_option maxRecDepth 100000 in
set_option maxHeartbeats 2000000 in
theorem rcheck_any (v : Int) (l : List (List Int)) (a : Option Addr) (cap : Nat) (w : World) (hI : ClsIn w a l) (hm : l.length ≤ 9223372036854775807) (hF : Fine w) :
    Calls Tryd.prog 15 #[.int .i64 v, .slice a l.length cap] w fun e w' => e = .returned (.agg #[.int .i64 (checkF v l).1, .int .i64 (checkF v l).2]) ∧ Below w.heap.size w w' := by
  have HB : Hid (Below w.heap.size w (w.alloc (.cells #[.int .i64 0, .int .i64 0] 41))) := below_new w _
  have HI := Lib.hid hI
  have HFN := Lib.hid hF
  have HW : Hid (∀ (n lo hi : Int) (W : World), Calls Tryd.prog 29 #[.int .i64 n, .int .i64 lo, .int .i64 hi] W fun e w' => e = .returned (.bool (decide (lo ≤ n ∧ n ≤ hi))) ∧ W = w') := within_any
  clear hI hF
  by_cases hv : v < 0 ∨ 24 < v
  · have e : checkF v l = (2, -1) := by unfold checkF; rw [if_pos hv]
    rw [e]
    have hw0 := HW.out v 0 24 (w.alloc (.cells #[.int .i64 0, .int .i64 0] 41))
    rw [show decide (0 ≤ v ∧ v ≤ 24) = false by simp; omega] at hw0
    have HW0 := Lib.hid hw0
    have HBR := Lib.hid (refBare 2 (w.alloc (.cells #[.int .i64 0, .int .i64 0] 41)))
    clear e hw0 hv
    go_enter Tryd.func15, Tryd.ntmps15
    go_wp2_with fail
    refine HW0.out.mono ?_
    rintro e w1 ⟨rfl, rfl⟩
    go_wp2_with fail
    refine HBR.out.mono ?_
    rintro e w1 ⟨rfl, hb1⟩
    rw [World.size_alloc] at hb1
    obtain ⟨r0, r1, r2, r3⟩ := ret_two hb1
    obtain ⟨⟨p0, p1⟩, p2, p3, p4⟩ := put_two 2 (-1) hb1
    have P2 := Lib.hid p2
    have P3 := Lib.hid p3
    have P4 := Lib.hid p4
    clear hb1 p2 p3 p4 HBR HW0
    go_wp2
    exact bodyPost_ret (v := .agg #[.int .i64 2, .int .i64 (-1)]) (by simp [results, Tryd.results15, go_sem, P2.out, P3.out]) rfl ⟨rfl, P4.out⟩
  have hv0 : 0 ≤ v := by omega
  have hv1 : v ≤ 24 := by omega
  clear hv
  have hw0 := HW.out v 0 24 (w.alloc (.cells #[.int .i64 0, .int .i64 0] 41))
  rw [show decide (0 ≤ v ∧ v ≤ 24) = true by simp; omega] at hw0
  have HW0 := Lib.hid hw0
  clear hw0
  by_cases hl : 200 < l.length
  · have e : checkF v l = (4, -1) := by unfold checkF; rw [if_neg (by omega), if_pos hl]
    rw [e]
    have HBR := Lib.hid (refBare 4 (w.alloc (.cells #[.int .i64 0, .int .i64 0] 41)))
    clear e
    go_enter Tryd.func15, Tryd.ntmps15
    go_wp2_with fail
    refine HW0.out.mono ?_
    rintro e w1 ⟨rfl, rfl⟩
    go_wp2_with fail
    refine HBR.out.mono ?_
    rintro e w1 ⟨rfl, hb1⟩
    rw [World.size_alloc] at hb1
    obtain ⟨r0, r1, r2, r3⟩ := ret_two hb1
    obtain ⟨⟨p0, p1⟩, p2, p3, p4⟩ := put_two 4 (-1) hb1
    have P2 := Lib.hid p2
    have P3 := Lib.hid p3
    have P4 := Lib.hid p4
    clear hb1 p2 p3 p4 HBR HW0
    go_wp2
    exact bodyPost_ret (v := .agg #[.int .i64 4, .int .i64 (-1)]) (by simp [results, Tryd.results15, go_sem, P2.out, P3.out]) rfl ⟨rfl, P4.out⟩
  go_enter Tryd.func15, Tryd.ntmps15
  go_wp2_with fail
  refine HW0.out.mono ?_
  rintro e w1 ⟨rfl, rfl⟩
  clear HW0
  go_wp2_with fail
  have hI1 := HI.out.below HB.out
  have hF1 := HFN.out.below HB.out
  have f0 := hF1.c0
  have f1 := hF1.c1
  have hb1 : Below (w.heap.size + 1) (w.alloc (.cells #[.int .i64 0, .int .i64 0] 41)) (w.alloc (.cells #[.int .i64 0, .int .i64 0] 41)) := Below.refl _ _
  obtain ⟨r0, r1, r2, r3⟩ := ret_two hb1
  have HP : Hid (∀ m pl, _) := fun m pl => put_two m pl hb1
  have HI1 := Lib.hid hI1
  clear hF1 hb1 hI1 HI HFN HB
  generalize w.alloc (.cells #[.int .i64 0, .int .i64 0] 41) = W0 at f0 f1 HI1 HP r0 r1 r2 r3 ⊢
  go_loop [19] (fun kV => ∃ k : Nat, k ≤ l.length ∧ kV = .int .i64 (k : Int) ∧ ∀ j, j < k → badC v (l.getD j []) = false) (fun kV => l.length - (intOf kV).toNat)
  case atStart => exact ⟨0, Nat.zero_le _, rfl, fun j h => by omega⟩
  case round =>
    obtain ⟨k, hk, rfl, h1⟩ := hrel
    have H1 := Lib.hid h1
    clear h1
    by_cases hlt : k < l.length
    · obtain ⟨ad, a', cap', rfl, hl', hc, g1, g2, g3⟩ := HI1.out k hlt
      have HG := Lib.hid g3
      clear g3
      generalize hx : l.getD k [] = c at *
      have HX := Lib.hid hx
      clear hx
      by_cases h48 : 48 < c.length
      · have hres : checkF v l = (4, (k : Int)) := by
          rw [checkF_at hv0 hv1 (by omega) hlt H1.out (by rw [HX.out]; simp [badC, h48]), HX.out]; simp [codeC, h48]
        have HRES := Lib.hid hres
        obtain ⟨⟨p0, p1⟩, p2, p3, p4⟩ := HP.out 4 (k : Int)
        have P2 := Lib.hid p2
        have P3 := Lib.hid p3
        have P4 := Lib.hid p4
        clear hres p2 p3 p4
        go_wp2
        exact bodyPost_ret (v := .agg #[.int .i64 4, .int .i64 (k : Int)]) (by simp [results, Tryd.results15, go_sem, P2.out, P3.out]) rfl ⟨by rw [HRES.out], P4.out⟩
      · go_wp2_with fail
        go_loop [31] (fun jV => ∃ j : Nat, j ≤ c.length ∧ jV = .int .i64 (j : Int) ∧ ∀ i, i < j → (!litB v (c.getD i 0)) = false) (fun jV => c.length - (intOf jV).toNat)
        case atStart => exact ⟨0, Nat.zero_le _, rfl, fun j h => by omega⟩
        case round =>
          obtain ⟨j, hj, rfl, h2⟩ := hrel
          have H2 := Lib.hid h2
          clear h2
          by_cases hjl : j < c.length
          · obtain ⟨ad2, rfl, hl2, hc2⟩ := HG.out j hjl
            generalize hy : c.getD j 0 = x at *
            have HY := Lib.hid hy
            clear hy
            have finish : Hid (litB v x = false → checkF v l = (2, (k : Int))) := fun hn => by
              rw [checkF_at hv0 hv1 (by omega) hlt H1.out (by rw [HX.out]; unfold badC; rw [any_hit (d := 0) hjl (by rw [HY.out, hn]; rfl)]; simp), HX.out]; simp [codeC, h48]
            obtain ⟨⟨p0, p1⟩, p2, p3, p4⟩ := HP.out 2 (k : Int)
            have P2 := Lib.hid p2
            have P3 := Lib.hid p3
            have P4 := Lib.hid p4
            clear p2 p3 p4
            by_cases h0 : x = 0
            · have HRES := Lib.hid (finish.out (by simp [litB, h0]))
              subst h0
              go_wp2
              exact bodyPost_ret (v := .agg #[.int .i64 2, .int .i64 (k : Int)]) (by simp [results, Tryd.results15, go_sem, P2.out, P3.out]) rfl ⟨by rw [HRES.out], P4.out⟩
            · have h0' : (x == 0) = false := by simpa using h0
              have hw := HW.out x (-v) v W0
              cases hd : decide (-v ≤ x ∧ x ≤ v) with
              | false =>
                rw [hd] at hw
                have HW1 := Lib.hid hw
                have HRES := Lib.hid (finish.out (by have : ¬ (-v ≤ x ∧ x ≤ v) := by simpa using hd
                                                     simp [litB]; omega))
                clear hw hd h0
                go_wp2_with (go_at_call 29; refine HW1.out.mono ?_; rintro e w1 ⟨rfl, rfl⟩)
                exact bodyPost_ret (v := .agg #[.int .i64 2, .int .i64 (k : Int)]) (by simp [results, Tryd.results15, go_sem, P2.out, P3.out]) rfl ⟨by rw [HRES.out], P4.out⟩
              | true =>
                rw [hd] at hw
                have HW1 := Lib.hid hw
                have HL : Hid ((!litB v x) = false) := by
                  have : (-v ≤ x ∧ x ≤ v) := by simpa using hd
                  show (!litB v x) = false
                  simp [litB, h0, this.1, this.2]
                clear hw hd h0
                go_wp2_with (go_at_call 29; refine HW1.out.mono ?_; rintro e w1 ⟨rfl, rfl⟩)
                go_round
                case rel => exact ⟨j + 1, hjl, by go_num, fun i hi => (by
                  rcases Nat.lt_succ_iff_lt_or_eq.1 hi with e | e
                  · exact H2.out i e
                  · rw [e, HY.out]; exact HL.out)⟩
                case measure => simp [intOf]; omega
          · obtain rfl : j = c.length := by omega
            have HBC : Hid (badC v c = false) := by show badC v c = false; unfold badC; rw [any_none H2.out]; simp; omega
            go_wp2
            go_round
            case rel => exact ⟨k + 1, hlt, by go_num, fun i hi => (by
              rcases Nat.lt_succ_iff_lt_or_eq.1 hi with e | e
              · exact H1.out i e
              · rw [e, HX.out]; exact HBC.out)⟩
            case measure => simp [intOf]; omega
    · obtain rfl : k = l.length := by omega
      have hres := checkF_ok hv0 hv1 (by omega) H1.out
      have HRES := Lib.hid hres
      obtain ⟨⟨p0, p1⟩, p2, p3, p4⟩ := HP.out 0 (-1)
      have P2 := Lib.hid p2
      have P3 := Lib.hid p3
      have P4 := Lib.hid p4
      clear hres p2 p3 p4
      go_wp2
      exact bodyPost_ret (v := .agg #[.int .i64 0, .int .i64 (-1)]) (by simp [results, Tryd.results15, go_sem, P2.out, P3.out]) rfl ⟨by rw [HRES.out], P4.out⟩
end Go.Proofs.YtcmmoinkhodjfaaDoor
