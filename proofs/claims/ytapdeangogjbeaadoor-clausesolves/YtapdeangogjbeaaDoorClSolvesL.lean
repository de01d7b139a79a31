/- The walk of ClauseSolves. -/
import Derived.Test.YtapdeangogjbeaaDoorClRCheck
import Derived.Test.YtapdeangogjbeaaDoorClFew
import Derived.Test.YtapdeangogjbeaaDoorClRSolve
namespace Go.Proofs.YtapdeangogjbeaaDoor
open Go.RowKit Go.Deep

theorem ClsIn.none (w : World) (a : Option Addr) : ClsIn w a [] := fun i hi => by simp at hi

set_option maxRecDepth 100000 in
set_option maxHeartbeats 4000000 in
theorem csolves_any (v : Int) (l : List (List Int)) (a : Option Addr) (cap : Nat) (hnil : a = none → cap = 0) (w : World) (hI : ClsIn w a l) (hm : l.length ≤ 9223372036854775807) (hg : Glob w) (hF : Fine w) :
    Calls Tryd.prog 5 #[.int .i64 v, .slice a l.length cap] w fun e w' => e = .returned (.bool true) ∧ Below w.heap.size w w' := by
  have HI := Lib.hid hI
  have HG := Lib.hid hg
  have HFW := Lib.hid (few_any v 200 l a cap w hI hm)
  have HRC := Lib.hid (rcheck_any v l a cap w hI hm hF)
  have HFO : Hid (∀ W, Below w.heap.size w W → Calls Tryd.prog 20 #[.int .i64 v, .slice a l.length cap] W fun e w' => SolveR v l e w' ∧ Below W.heap.size W w') := fun W hW => solve_any v l a cap hnil W (HI.out.below hW) hm
  have HNIL := Lib.hid hnil
  clear hI hg hF hnil
  go_enter Tryd.func5, Tryd.ntmps5
  go_wp2_with fail
  refine HFW.out.mono ?_
  rintro e w1 ⟨⟨B, rfl⟩, rfl⟩
  clear HFW
  cases B with
  | false =>
    go_wp2
    go_ret
    exact ⟨rfl, Below.refl _ _⟩
  | true =>
    by_cases h10 : 10 < v ∧ v ≤ 24
    · obtain ⟨h10a, h10b⟩ := h10
      go_wp2
      go_ret
      exact ⟨rfl, Below.refl _ _⟩
    · have HQ : Hid (Calls Tryd.prog 9 #[.int .i64 v, .slice a l.length cap] w _) := HRC.out
      have hpick : (if decide (10 < v) = true then decide (v ≤ 24) else false) = false := by
        by_cases q : 10 < v
        · simp [q]; omega
        · simp [q]
      by_cases hq : 10 < v
      · have hq2 : ¬ v ≤ 24 := by omega
        have hz : (checkF v l).1 ≠ 0 := fun h => by have := (check_fine h).2.1; omega
        clear hpick h10
        go_wp2_with fail
        refine HRC.out.mono ?_
        rintro e w1 ⟨rfl, hb1⟩
        have HB1 := Lib.hid hb1
        have hws1 := hb1.size
        clear hb1 HRC HQ
        have hzz : ((checkF v l).1 == 0) = false := by simpa using hz
        have hbn := below_new w1 (.cells #[.int .i64 (checkF v l).1, .int .i64 (checkF v l).2] 31)
        have HK := Lib.hid (Blk.new w1 31 #[.int .i64 (checkF v l).1, .int .i64 (checkF v l).2])
        have HB2 : Hid (Below w.heap.size w (w1.alloc (.cells #[.int .i64 (checkF v l).1, .int .i64 (checkF v l).2] 31))) := HB1.out.trans (hbn.mono HB1.out.size)
        have HFG := Lib.hid (HFO.out _ HB2.out)
        have HFR : Hid (∀ e w', SolveR v l e w' → ∃ er, e = .returned (.tuple #[.agg #[.bool false, .int .u64 0, .slice none 0 0], er]) ∧ ErrIs w' er (checkF v l).1 (checkF v l).2) := fun e w' h => by
          rcases h with ⟨_, h⟩ | ⟨h, _⟩
          · exact h
          · exact absurd h hz
        generalize (checkF v l).1 = m1 at *
        generalize (checkF v l).2 = m2 at *
        clear hbn HB1 hz
        go_wp2_with fail
        generalize w1.alloc (.cells #[.int .i64 m1, .int .i64 m2] 31) = W2 at *
        refine HFG.out.mono ?_
        rintro e w7 ⟨hR, hb7⟩
        obtain ⟨er, rfl, her⟩ := HFR.out e w7 hR
        have HER := Lib.hid her
        clear hR HFR HFG her
        have hK8 := HK.out.below hb7 HK.out.lt
        have hbn8 := below_new w7 (.cells #[.bool false, .int .u64 0, .slice none 0 0] 49)
        have hKA := Blk.new w7 49 #[.bool false, .int .u64 0, .slice none 0 0]
        have hK9 := hK8.below hbn8 hK8.lt
        have k0 := hK9.cell 0
        have k1 := hK9.cell 1
        have hB7 : Below w.heap.size w w7 := HB2.out.trans (hb7.mono HB2.out.size)
        have hB8 : Below w.heap.size w (w7.alloc (.cells #[.bool false, .int .u64 0, .slice none 0 0] 49)) := hB7.trans (hbn8.mono hB7.size)
        have HAT := at_any m1 m1 m2 m2 er _ (HG.out.below hB8) (HER.out.below hbn8)
        rw [beq_self_eq_true, beq_self_eq_true, Bool.and_self] at HAT
        have HATT := Lib.hid HAT
        have HC1 : Hid (ClsIn _ none []) := (ClsIn.none w7 none).below hbn8
        have HC2 : Hid (ClsIn _ none []) := ((ClsIn.none W2 none).below hb7).below hbn8
        have HB8 := Lib.hid hB8
        have HKA := Lib.hid hKA
        clear hb7 HAT hB7 hB8 hK8 hK9 hbn8 hKA
        go_wp2_with fail
        generalize w7.alloc (.cells #[.bool false, .int .u64 0, .slice none 0 0] 49) = W8 at *
        refine HATT.out.mono ?_
        rintro e w9 ⟨rfl, hb9⟩
        have hKA9 := HKA.out.below hb9 HKA.out.lt
        have j0 := hKA9.cell 0
        have j1 := hKA9.cell 1
        have j2 := hKA9.cell 2
        have HB9 : Hid (Below w.heap.size w w9) := HB8.out.trans (hb9.mono HB8.out.size)
        have HSM := Lib.hid (same_cls [] none none 0 0 w9 (HC1.out.below hb9) (HC2.out.below hb9) (by simp))
        have eNN : ((0 : Int) == (0 : Int)) = true := by simp
        clear hb9 HATT HB8 HKA hKA9 HC1 HC2
        go_wp2_with fail
        refine HSM.out.mono ?_
        rintro e w10 ⟨rfl, hb10⟩
        have HB10 : Hid (Below w.heap.size w w10) := HB9.out.trans (hb10.mono HB9.out.size)
        clear hb10 HSM
        go_wp2
        go_ret
        exact ⟨by first | rfl | simp, HB10.out⟩
      · clear hpick h10
        go_wp2_with fail
        refine HRC.out.mono ?_
        rintro e w1 ⟨rfl, hb1⟩
        have HB1 := Lib.hid hb1
        have hws1 := hb1.size
        clear hb1 HRC HQ
        by_cases hz : (checkF v l).1 = 0
        · obtain ⟨hv0, hv1, hl200, hls, hck, h48⟩ := check_fine hz
          obtain ⟨n, rfl⟩ : ∃ n : Nat, v = (n : Int) := ⟨v.toNat, by omega⟩
          obtain ⟨r, hrun⟩ := run_ex (v := n) (l := l) (by omega) hls (mu st0) st0 (Nat.le_refl _) (good0 n)
          have hbn := below_new w1 (.cells #[.int .i64 0, .int .i64 (-1)] 31)
          have HK := Lib.hid (Blk.new w1 31 #[.int .i64 0, .int .i64 (-1)])
          have HB2 : Hid (Below w.heap.size w (w1.alloc (.cells #[.int .i64 0, .int .i64 (-1)] 31))) := HB1.out.trans (hbn.mono HB1.out.size)
          have HRS := Lib.hid (rsolve_any n (by omega) l hls h48 hl200 a cap HNIL.out _ (HI.out.below HB2.out) r hrun)
          have HSR : Hid (∀ e w', SolveR (n : Int) l e w' → ((∃ t, r = .sat t ∧ e = .returned (.tuple #[.agg #[.bool true, .int .u64 ((numF t 24 : Nat) : Int), .slice none 0 0], .nilIface])) ∨ (∃ p a c, r = .unsat p ∧ e = .returned (.tuple #[.agg #[.bool false, .int .u64 0, .slice a p.length c], .nilIface]) ∧ ClsIn w' a p) ∨ (r = .limit ∧ e = .returned (.tuple #[.agg #[.bool false, .int .u64 0, .slice none 0 0], .iface 29 (.int .i64 4)])))) := fun e w' h => by
            rcases h with ⟨h, _⟩ | ⟨_, r', hr', h⟩
            · exact absurd hz h
            · obtain rfl := hrun.det (show Run n l st0 r' from hr')
              exact h
          rw [hck]
          clear hbn HB1 hls h48 hck hz hrun
          go_wp2_with fail
          generalize w1.alloc (.cells #[.int .i64 0, .int .i64 (-1)] 31) = W2 at *
          refine HRS.out.mono ?_
          rintro e w3 ⟨hR, hb3⟩
          have HK3 := Lib.hid (HK.out.below hb3 HK.out.lt)
          have HB3 : Hid (Below w.heap.size w w3) := HB2.out.trans (hb3.mono HB2.out.size)
          clear hb3 HRS HK HB2
          rcases hR with ⟨t, hr, rfl⟩ | ⟨p, ra, rc, hr, rfl, hcl, hp2⟩ | ⟨hr, rfl⟩
          · have HFF := Lib.hid (HFO.out _ HB3.out)
            have HE : Hid (∀ e w', SolveR (n : Int) l e w' → e = .returned (.tuple #[.agg #[.bool true, .int .u64 ((numF t 24 : Nat) : Int), .slice none 0 0], .nilIface])) := fun e w' h => by
              rcases HSR.out e w' h with ⟨t', e1, e2⟩ | ⟨_, _, _, e1, _⟩ | ⟨e1, _⟩
              · rw [hr] at e1; cases e1; exact e2
              · rw [hr] at e1; cases e1
              · rw [hr] at e1; cases e1
            generalize ((numF t 24 : Nat) : Int) = N at *
            clear HSR hr
            go_wp2_with fail
            refine HFF.out.mono ?_
            rintro e w7 ⟨hR, hb7⟩
            obtain rfl := HE.out e w7 hR
            clear hR HE HFF
            have hK8 := HK3.out.below hb7 HK3.out.lt
            have hbn8 := below_new w7 (.cells #[.bool true, .int .u64 N, .slice none 0 0] 49)
            have hKA := Blk.new w7 49 #[.bool true, .int .u64 N, .slice none 0 0]
            have hK9 := hK8.below hbn8 hK8.lt
            have k0 := hK9.cell 0
            have k1 := hK9.cell 1
            have hB7 : Below w.heap.size w w7 := HB3.out.trans (hb7.mono HB3.out.size)
            have hB8 : Below w.heap.size w (w7.alloc (.cells #[.bool true, .int .u64 N, .slice none 0 0] 49)) := hB7.trans (hbn8.mono hB7.size)
            have HAT := at_any 0 0 (-1) (-1) .nilIface _ (HG.out.below hB8) (Or.inl ⟨rfl, rfl, rfl⟩)
            rw [beq_self_eq_true, beq_self_eq_true, Bool.and_self] at HAT
            have HATT := Lib.hid HAT
            have HC1 : Hid (ClsIn _ none []) := (ClsIn.none w7 none).below hbn8
            have HC2 : Hid (ClsIn _ none []) := ((ClsIn.none w3 none).below hb7).below hbn8
            have HB8 := Lib.hid hB8
            have HKA := Lib.hid hKA
            clear hb7 HAT hB7 hB8 hK8 hK9 hbn8 hKA
            go_wp2_with fail
            generalize w7.alloc (.cells #[.bool true, .int .u64 N, .slice none 0 0] 49) = W8 at *
            refine HATT.out.mono ?_
            rintro e w9 ⟨rfl, hb9⟩
            have hKA9 := HKA.out.below hb9 HKA.out.lt
            have j0 := hKA9.cell 0
            have j1 := hKA9.cell 1
            have j2 := hKA9.cell 2
            have HB9 : Hid (Below w.heap.size w w9) := HB8.out.trans (hb9.mono HB8.out.size)
            have HSM := Lib.hid (same_cls [] none none 0 0 w9 (HC1.out.below hb9) (HC2.out.below hb9) (by simp))
            have eNN : ((N : Int) == (N : Int)) = true := by simp
            clear hb9 HATT HB8 HKA hKA9 HC1 HC2
            go_wp2_with fail
            refine HSM.out.mono ?_
            rintro e w10 ⟨rfl, hb10⟩
            have HB10 : Hid (Below w.heap.size w w10) := HB9.out.trans (hb10.mono HB9.out.size)
            clear hb10 HSM
            go_wp2
            go_ret
            exact ⟨by first | rfl | simp, HB10.out⟩
          · have HFF := Lib.hid (HFO.out _ HB3.out)
            have HE : Hid (∀ e w', SolveR (n : Int) l e w' → ∃ sa sc, e = .returned (.tuple #[.agg #[.bool false, .int .u64 0, .slice sa p.length sc], .nilIface]) ∧ ClsIn w' sa p) := fun e w' h => by
              rcases HSR.out e w' h with ⟨t', e1, e2⟩ | ⟨p', sa, sc, e1, e2, e3⟩ | ⟨e1, _⟩
              · rw [hr] at e1; cases e1
              · rw [hr] at e1; cases e1; exact ⟨sa, sc, e2, e3⟩
              · rw [hr] at e1; cases e1
            have HCL := Lib.hid hcl
            clear HSR hr hcl
            go_wp2_with fail
            refine HFF.out.mono ?_
            rintro e w7 ⟨hR, hb7⟩
            obtain ⟨sa, sc, rfl, hsc⟩ := HE.out e w7 hR
            have HSC := Lib.hid hsc
            clear hR HE HFF hsc
            have hK8 := HK3.out.below hb7 HK3.out.lt
            have hbn8 := below_new w7 (.cells #[.bool false, .int .u64 0, .slice sa p.length sc] 49)
            have hKA := Blk.new w7 49 #[.bool false, .int .u64 0, .slice sa p.length sc]
            have hK9 := hK8.below hbn8 hK8.lt
            have k0 := hK9.cell 0
            have k1 := hK9.cell 1
            have hB7 : Below w.heap.size w w7 := HB3.out.trans (hb7.mono HB3.out.size)
            have hB8 : Below w.heap.size w (w7.alloc (.cells #[.bool false, .int .u64 0, .slice sa p.length sc] 49)) := hB7.trans (hbn8.mono hB7.size)
            have HAT := at_any 0 0 (-1) (-1) .nilIface _ (HG.out.below hB8) (Or.inl ⟨rfl, rfl, rfl⟩)
            rw [beq_self_eq_true, beq_self_eq_true, Bool.and_self] at HAT
            have HATT := Lib.hid HAT
            have HC1 : Hid (ClsIn _ sa p) := (HSC.out).below hbn8
            have HC2 : Hid (ClsIn _ ra p) := ((HCL.out).below hb7).below hbn8
            have HB8 := Lib.hid hB8
            have HKA := Lib.hid hKA
            clear hb7 HAT hB7 hB8 hK8 hK9 hbn8 hKA
            go_wp2_with fail
            generalize w7.alloc (.cells #[.bool false, .int .u64 0, .slice sa p.length sc] 49) = W8 at *
            refine HATT.out.mono ?_
            rintro e w9 ⟨rfl, hb9⟩
            have hKA9 := HKA.out.below hb9 HKA.out.lt
            have j0 := hKA9.cell 0
            have j1 := hKA9.cell 1
            have j2 := hKA9.cell 2
            have HB9 : Hid (Below w.heap.size w w9) := HB8.out.trans (hb9.mono HB8.out.size)
            have HSM := Lib.hid (same_cls p sa ra sc rc w9 (HC1.out.below hb9) (HC2.out.below hb9) (by omega))
            have eNN : ((0 : Int) == (0 : Int)) = true := by simp
            clear hb9 HATT HB8 HKA hKA9 HC1 HC2
            go_wp2_with fail
            refine HSM.out.mono ?_
            rintro e w10 ⟨rfl, hb10⟩
            have HB10 : Hid (Below w.heap.size w w10) := HB9.out.trans (hb10.mono HB9.out.size)
            clear hb10 HSM
            go_wp2
            go_ret
            exact ⟨by first | rfl | simp, HB10.out⟩
          · have HBA := Lib.hid (refBare 4 w3)
            have HE : Hid (∀ e w', SolveR (n : Int) l e w' → e = .returned (.tuple #[.agg #[.bool false, .int .u64 0, .slice none 0 0], .iface 29 (.int .i64 4)])) := fun e w' h => by
              rcases HSR.out e w' h with ⟨t', e1, e2⟩ | ⟨p', sa, sc, e1, e2, e3⟩ | ⟨_, e2⟩
              · rw [hr] at e1; cases e1
              · rw [hr] at e1; cases e1
              · exact e2
            clear HSR hr
            go_wp2_with fail
            refine HBA.out.mono ?_
            rintro e w4 ⟨rfl, hb4⟩
            have hK4 := HK3.out.below hb4 HK3.out.lt
            have hB4 : Below w.heap.size w w4 := HB3.out.trans (hb4.mono HB3.out.size)
            have k0 := hK4.cell 0
            have f0 := hK4.frozen 0
            have hK5 := hK4.set (i := 0) (v := .int .i64 4)
            have k1 := hK5.cell 1
            have f1 := hK5.frozen 1
            have hK6 := hK5.set (i := 1) (v := .int .i64 (-1))
            have hB6 : Below w.heap.size w ((w4.setCell ⟨w1.heap.size, 0, none⟩ (.int .i64 4)).setCell ⟨w1.heap.size, 1, none⟩ (.int .i64 (-1))) := (hB4.setCell (p := ⟨w1.heap.size, 0, none⟩) hws1 _).setCell (p := ⟨w1.heap.size, 1, none⟩) hws1 _
            have HB6 := Lib.hid hB6
            have HK6 : Hid (Blk ((w4.setCell ⟨w1.heap.size, 0, none⟩ (.int .i64 4)).setCell ⟨w1.heap.size, 1, none⟩ (.int .i64 (-1))) w1.heap.size 31 #[.int .i64 4, .int .i64 (-1)]) := hK6
            have HFF := Lib.hid (HFO.out _ hB6)
            clear hb4 HBA hK4 hB4 hK5 hK6 hB6 HK3 HB3
            go_wp2_with fail
            generalize (w4.setCell ⟨w1.heap.size, 0, none⟩ (.int .i64 4)).setCell ⟨w1.heap.size, 1, none⟩ (.int .i64 (-1)) = W6 at *
            refine HFF.out.mono ?_
            rintro e w7 ⟨hR, hb7⟩
            obtain rfl := HE.out e w7 hR
            clear hR HE HFF
            have hK8 := HK6.out.below hb7 HK6.out.lt
            have hbn8 := below_new w7 (.cells #[.bool false, .int .u64 0, .slice none 0 0] 49)
            have hKA := Blk.new w7 49 #[.bool false, .int .u64 0, .slice none 0 0]
            have hK9 := hK8.below hbn8 hK8.lt
            have k0 := hK9.cell 0
            have k1 := hK9.cell 1
            have hB7 : Below w.heap.size w w7 := HB6.out.trans (hb7.mono HB6.out.size)
            have hB8 : Below w.heap.size w (w7.alloc (.cells #[.bool false, .int .u64 0, .slice none 0 0] 49)) := hB7.trans (hbn8.mono hB7.size)
            have HAT := at_any 4 4 (-1) (-1) (.iface 29 (.int .i64 4)) _ (HG.out.below hB8) (Or.inr (Or.inl ⟨by decide, rfl, rfl⟩))
            rw [beq_self_eq_true, beq_self_eq_true, Bool.and_self] at HAT
            have HATT := Lib.hid HAT
            have HC1 : Hid (ClsIn _ none []) := (ClsIn.none w7 none).below hbn8
            have HC2 : Hid (ClsIn _ none []) := ((ClsIn.none W6 none).below hb7).below hbn8
            have HB8 := Lib.hid hB8
            have HKA := Lib.hid hKA
            clear hb7 HAT hB7 hB8 hK8 hK9 hbn8 hKA
            go_wp2_with fail
            generalize w7.alloc (.cells #[.bool false, .int .u64 0, .slice none 0 0] 49) = W8 at *
            refine HATT.out.mono ?_
            rintro e w9 ⟨rfl, hb9⟩
            have hKA9 := HKA.out.below hb9 HKA.out.lt
            have j0 := hKA9.cell 0
            have j1 := hKA9.cell 1
            have j2 := hKA9.cell 2
            have HB9 : Hid (Below w.heap.size w w9) := HB8.out.trans (hb9.mono HB8.out.size)
            have HSM := Lib.hid (same_cls [] none none 0 0 w9 (HC1.out.below hb9) (HC2.out.below hb9) (by simp))
            have eNN : ((0 : Int) == (0 : Int)) = true := by simp
            clear hb9 HATT HB8 HKA hKA9 HC1 HC2
            go_wp2_with fail
            refine HSM.out.mono ?_
            rintro e w10 ⟨rfl, hb10⟩
            have HB10 : Hid (Below w.heap.size w w10) := HB9.out.trans (hb10.mono HB9.out.size)
            clear hb10 HSM
            go_wp2
            go_ret
            exact ⟨by first | rfl | simp, HB10.out⟩
        · have hzz : ((checkF v l).1 == 0) = false := by simpa using hz
          have hbn := below_new w1 (.cells #[.int .i64 (checkF v l).1, .int .i64 (checkF v l).2] 31)
          have HK := Lib.hid (Blk.new w1 31 #[.int .i64 (checkF v l).1, .int .i64 (checkF v l).2])
          have HB2 : Hid (Below w.heap.size w (w1.alloc (.cells #[.int .i64 (checkF v l).1, .int .i64 (checkF v l).2] 31))) := HB1.out.trans (hbn.mono HB1.out.size)
          have HFG := Lib.hid (HFO.out _ HB2.out)
          have HFR : Hid (∀ e w', SolveR v l e w' → ∃ er, e = .returned (.tuple #[.agg #[.bool false, .int .u64 0, .slice none 0 0], er]) ∧ ErrIs w' er (checkF v l).1 (checkF v l).2) := fun e w' h => by
            rcases h with ⟨_, h⟩ | ⟨h, _⟩
            · exact h
            · exact absurd h hz
          generalize (checkF v l).1 = m1 at *
          generalize (checkF v l).2 = m2 at *
          clear hbn HB1 hz
          go_wp2_with fail
          generalize w1.alloc (.cells #[.int .i64 m1, .int .i64 m2] 31) = W2 at *
          refine HFG.out.mono ?_
          rintro e w7 ⟨hR, hb7⟩
          obtain ⟨er, rfl, her⟩ := HFR.out e w7 hR
          have HER := Lib.hid her
          clear hR HFR HFG her
          have hK8 := HK.out.below hb7 HK.out.lt
          have hbn8 := below_new w7 (.cells #[.bool false, .int .u64 0, .slice none 0 0] 49)
          have hKA := Blk.new w7 49 #[.bool false, .int .u64 0, .slice none 0 0]
          have hK9 := hK8.below hbn8 hK8.lt
          have k0 := hK9.cell 0
          have k1 := hK9.cell 1
          have hB7 : Below w.heap.size w w7 := HB2.out.trans (hb7.mono HB2.out.size)
          have hB8 : Below w.heap.size w (w7.alloc (.cells #[.bool false, .int .u64 0, .slice none 0 0] 49)) := hB7.trans (hbn8.mono hB7.size)
          have HAT := at_any m1 m1 m2 m2 er _ (HG.out.below hB8) (HER.out.below hbn8)
          rw [beq_self_eq_true, beq_self_eq_true, Bool.and_self] at HAT
          have HATT := Lib.hid HAT
          have HC1 : Hid (ClsIn _ none []) := (ClsIn.none w7 none).below hbn8
          have HC2 : Hid (ClsIn _ none []) := ((ClsIn.none W2 none).below hb7).below hbn8
          have HB8 := Lib.hid hB8
          have HKA := Lib.hid hKA
          clear hb7 HAT hB7 hB8 hK8 hK9 hbn8 hKA
          go_wp2_with fail
          generalize w7.alloc (.cells #[.bool false, .int .u64 0, .slice none 0 0] 49) = W8 at *
          refine HATT.out.mono ?_
          rintro e w9 ⟨rfl, hb9⟩
          have hKA9 := HKA.out.below hb9 HKA.out.lt
          have j0 := hKA9.cell 0
          have j1 := hKA9.cell 1
          have j2 := hKA9.cell 2
          have HB9 : Hid (Below w.heap.size w w9) := HB8.out.trans (hb9.mono HB8.out.size)
          have HSM := Lib.hid (same_cls [] none none 0 0 w9 (HC1.out.below hb9) (HC2.out.below hb9) (by simp))
          have eNN : ((0 : Int) == (0 : Int)) = true := by simp
          clear hb9 HATT HB8 HKA hKA9 HC1 HC2
          go_wp2_with fail
          refine HSM.out.mono ?_
          rintro e w10 ⟨rfl, hb10⟩
          have HB10 : Hid (Below w.heap.size w w10) := HB9.out.trans (hb10.mono HB9.out.size)
          clear hb10 HSM
          go_wp2
          go_ret
          exact ⟨by first | rfl | simp, HB10.out⟩
end Go.Proofs.YtapdeangogjbeaaDoor
