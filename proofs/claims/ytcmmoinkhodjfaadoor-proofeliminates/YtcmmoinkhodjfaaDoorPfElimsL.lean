/- The walk of ProofEliminates. -/
import Derived.Test.YtcmmoinkhodjfaaDoorPfRElim
import Derived.Test.YtcmmoinkhodjfaaDoorClFew
import Derived.Test.YtcmmoinkhodjfaaDoorClSameI
namespace Go.Proofs.YtcmmoinkhodjfaaDoor
open Go.RowKit Go.Deep

theorem sizes_len {l : List (Nat × Nat)} {k : Nat} {s : List Int} {m : List (Nat × Nat)} (h : elimK l k = some (s, m)) : s.length = k := elimK_len h

set_option maxRecDepth 100000 in
set_option maxHeartbeats 4000000 in
theorem pelims_any (v : Int) (l : List (List Int)) (a : Option Addr) (cap : Nat) (w : World) (hI : ClsIn w a l) (hm : l.length ≤ 9223372036854775807) (hg : Glob w) (hF : Fine w) (hw : Tab w) :
    Calls Tryd.prog 6 #[.int .i64 v, .slice a l.length cap] w fun e w' => e = .returned (.bool true) ∧ Below w.heap.size w w' := by
  have HI := Lib.hid hI
  have HG := Lib.hid hg
  have HW := Lib.hid hw
  have HFW := Lib.hid (few_any v 60 l a cap w hI hm)
  have HRC := Lib.hid (rcheck_any v l a cap w hI hm hF)
  have HFO : Hid (∀ W, Below w.heap.size w W → Calls Tryd.prog 24 #[.int .i64 v, .slice a l.length cap] W fun e w' => ElimAns v l e w' ∧ Below W.heap.size W w') := fun W hW => elim_any v l a cap W (HI.out.below hW) hm
  clear hI hg hF hw
  go_enter Tryd.func6, Tryd.ntmps6
  go_wp2_with fail
  refine HFW.out.mono ?_
  rintro e w1 ⟨⟨B, rfl⟩, rfl⟩
  clear HFW
  cases B with
  | false =>
    go_wp2
    go_ret
    exact ⟨rfl, Below.refl _ _⟩
  | true =>
    by_cases h15 : 15 < l.length
    · go_wp2
      go_ret
      exact ⟨rfl, Below.refl _ _⟩
    by_cases h8 : 8 < v ∧ v ≤ 24
    · obtain ⟨h8a, h8b⟩ := h8
      go_wp2
      go_ret
      exact ⟨rfl, Below.refl _ _⟩
    have h15d : decide (15 < (l.length : Int)) = false := by simp; omega
    by_cases hz : (checkF v l).1 = 0
    · obtain ⟨hv0, hv1, hl200, hls, hck, h48⟩ := check_fine hz
      have hcase : v ≤ 8 := by omega
      clear h8
      obtain ⟨n, rfl⟩ : ∃ n : Nat, v = (n : Int) := ⟨v.toNat, by omega⟩
      go_wp2_with fail
      refine HRC.out.mono ?_
      rintro e w1 ⟨rfl, hb1⟩
      have HB1 := Lib.hid hb1
      have hws1 := hb1.size
      clear hb1 HRC
      · clear h15d
        have hbn := below_new w1 (.cells #[.int .i64 0, .int .i64 (-1)] 41)
        have HK := Lib.hid (Blk.new w1 41 #[.int .i64 0, .int .i64 (-1)])
        have HB2 : Hid (Below w.heap.size w (w1.alloc (.cells #[.int .i64 0, .int .i64 (-1)] 41))) := HB1.out.trans (hbn.mono HB1.out.size)
        have HRF := Lib.hid (relim_any n (by omega) l hl200 a cap _ (HI.out.below HB2.out) (HW.out.below HB2.out))
        rw [hck]
        have HZ := Lib.hid hz
        have HTN : Hid (((n : Int)).toNat = n) := by show _ = _; omega
        clear hbn HB1 hls h48 hck hz
        go_wp2_with fail
        generalize w1.alloc (.cells #[.int .i64 0, .int .i64 (-1)] 41) = W2 at *
        refine HRF.out.mono ?_
        rintro e w3 ⟨hR, hb3⟩
        have HK3 := Lib.hid (HK.out.below hb3 HK.out.lt)
        have HB3 : Hid (Below w.heap.size w w3) := HB2.out.trans (hb3.mono HB2.out.size)
        clear hb3 HRF HK HB2
        rcases hR with ⟨hno, rfl⟩ | ⟨s, m, hso, ra, rc, rfl, hri⟩
        · have HNO := Lib.hid hno
          have HBA := Lib.hid (refBare 4 w3)
          clear hno
          go_wp2_with fail
          refine HBA.out.mono ?_
          rintro e w4 ⟨rfl, hb4⟩
          have hK4 := HK3.out.below hb4 HK3.out.lt
          have hB4 : Below w.heap.size w w4 := HB3.out.trans (hb4.mono HB3.out.size)
          have k0 := hK4.cell 0
          have f0 := hK4.frozen 0
          have hK5 := hK4.set (i := 0) (v := .int .i64 4)
          have k1 := hK5.cell 1
          have f1 := hK5.frozen 1
          have hK6 := hK5.set (i := 1) (v := .int .i64 (-1))
          have hB6 : Below w.heap.size w ((w4.setCell ⟨w1.heap.size, 0, none⟩ (.int .i64 4)).setCell ⟨w1.heap.size, 1, none⟩ (.int .i64 (-1))) := (hB4.setCell (p := ⟨w1.heap.size, 0, none⟩) hws1 _).setCell (p := ⟨w1.heap.size, 1, none⟩) hws1 _
          have HB6 := Lib.hid hB6
          have HK6 : Hid (Blk ((w4.setCell ⟨w1.heap.size, 0, none⟩ (.int .i64 4)).setCell ⟨w1.heap.size, 1, none⟩ (.int .i64 (-1))) w1.heap.size 41 #[.int .i64 4, .int .i64 (-1)]) := hK6
          have HFF := Lib.hid (HFO.out _ hB6)
          clear hb4 HBA hK4 hB4 hK5 hK6 hB6 HK3 HB3
          go_wp2_with fail
          generalize (w4.setCell ⟨w1.heap.size, 0, none⟩ (.int .i64 4)).setCell ⟨w1.heap.size, 1, none⟩ (.int .i64 (-1)) = W6 at *
          refine HFF.out.mono ?_
          rintro e w7 ⟨hR, hb7⟩
          have he : e = .returned (.tuple #[.slice none 0 0, .bool false, .iface 27 (.int .i64 4)]) := by
            rcases hR with ⟨h, _⟩ | ⟨_, _, h⟩ | ⟨_, s, m, h, _⟩
            · exact absurd HZ.out h
            · exact h
            · rw [HTN.out, HNO.out] at h; cases h
          subst he
          have hK7 := HK6.out.below hb7 HK6.out.lt
          have k0 := hK7.cell 0
          have k1 := hK7.cell 1
          have hB7 : Below w.heap.size w w7 := HB6.out.trans (hb7.mono HB6.out.size)
          have HAT := at_any 4 4 (-1) (-1) (.iface 27 (.int .i64 4)) w7 (HG.out.below hB7) (Or.inr (Or.inl ⟨by decide, rfl, rfl⟩))
          rw [beq_self_eq_true, beq_self_eq_true, Bool.and_self] at HAT
          have HATT := Lib.hid HAT
          have HB7 := Lib.hid hB7
          clear hR hb7 HFF HAT hB7 hK7 HK6 HB6
          go_wp2_with fail
          refine HATT.out.mono ?_
          rintro e w8 ⟨rfl, hb8⟩
          have HB8 : Hid (Below w.heap.size w w8) := HB7.out.trans (hb8.mono HB7.out.size)
          have HSM := Lib.hid (same_ints [] none none 0 0 w8 (fun i hi => by simp at hi) (fun i hi => by simp at hi) (by simp))
          have HL0 : Hid (([] : List Int).length = 0) := rfl
          rw [HL0.out] at HSM
          clear hb8 HATT HB7
          go_wp2_with fail
          refine HSM.out.mono ?_
          rintro e w9 ⟨rfl, hb9⟩
          have HB9 : Hid (Below w.heap.size w w9) := HB8.out.trans (hb9.mono HB8.out.size)
          clear hb9 HSM HB8
          go_wp2
          go_ret
          exact ⟨by first | rfl | simp, HB9.out⟩
        · have HFF := Lib.hid (HFO.out _ HB3.out)
          have HSO := Lib.hid hso
          have HRI := Lib.hid hri
          have hsl : s.length ≤ n := by rw [sizes_len hso]; exact Nat.le_refl _
          have k0 := HK3.out.cell 0
          clear hso hri
          go_wp2_with fail
          refine HFF.out.mono ?_
          rintro e w7 ⟨hR, hb7⟩
          obtain ⟨oa, oc, rfl, hoi⟩ : ∃ oa oc, e = .returned (.tuple #[.slice oa s.length oc, .bool (decide (m = [])), .nilIface]) ∧ IntsIn w7 oa s := by
            rcases hR with ⟨h, _⟩ | ⟨_, h, _⟩ | ⟨_, s', m', h, oa, oc, he, hi, -⟩
            · exact absurd HZ.out h
            · rw [HTN.out, HSO.out] at h; cases h
            · rw [HTN.out, HSO.out] at h
              injection h with h
              injection h with h1 h2
              subst h1 h2
              exact ⟨oa, oc, he, hi⟩
          have hK7 := HK3.out.below hb7 HK3.out.lt
          have k0 := hK7.cell 0
          have k1 := hK7.cell 1
          have hB7 : Below w.heap.size w w7 := HB3.out.trans (hb7.mono HB3.out.size)
          have HAT := at_any 0 0 (-1) (-1) .nilIface w7 (HG.out.below hB7) (Or.inl ⟨rfl, rfl, rfl⟩)
          rw [beq_self_eq_true, beq_self_eq_true, Bool.and_self] at HAT
          have HATT := Lib.hid HAT
          have HB7 := Lib.hid hB7
          have HC7 := Lib.hid hoi
          have HR7 := Lib.hid (HRI.out.below hb7)
          generalize decide (m = []) = D at *
          have ebb : (D == D) = true := by simp
          clear hR hb7 HFF HAT hB7 hK7 HK3 HB3 hoi HRI
          go_wp2_with fail
          refine HATT.out.mono ?_
          rintro e w8 ⟨rfl, hb8⟩
          have HB8 : Hid (Below w.heap.size w w8) := HB7.out.trans (hb8.mono HB7.out.size)
          have HSM := Lib.hid (same_ints s oa ra oc rc w8 (HC7.out.below hb8) (HR7.out.below hb8) (by omega))
          clear hb8 HATT HB7
          go_wp2_with fail
          refine HSM.out.mono ?_
          rintro e w9 ⟨rfl, hb9⟩
          have HB9 : Hid (Below w.heap.size w w9) := HB8.out.trans (hb9.mono HB8.out.size)
          clear hb9 HSM HB8
          go_wp2
          go_ret
          exact ⟨by first | rfl | simp, HB9.out⟩
    have hcase : v ≤ 8 ∨ 24 < v := by omega
    clear h8
    rcases hcase with hcase | hcase
    all_goals
      go_wp2_with fail
      refine HRC.out.mono ?_
      rintro e w1 ⟨rfl, hb1⟩
      have HB1 := Lib.hid hb1
      have hws1 := hb1.size
      clear hb1 HRC
      · have hzz : ((checkF v l).1 == 0) = false := by simpa using hz
        have hbn := below_new w1 (.cells #[.int .i64 (checkF v l).1, .int .i64 (checkF v l).2] 41)
        have HK := Lib.hid (Blk.new w1 41 #[.int .i64 (checkF v l).1, .int .i64 (checkF v l).2])
        have HB2 : Hid (Below w.heap.size w (w1.alloc (.cells #[.int .i64 (checkF v l).1, .int .i64 (checkF v l).2] 41))) := HB1.out.trans (hbn.mono HB1.out.size)
        have HFF := HFO.out _ HB2.out
        have HZ := Lib.hid hz
        have HFR : Hid (∀ e w', ElimAns v l e w' → ∃ er, e = .returned (.tuple #[.slice none 0 0, .bool false, er]) ∧ ErrIs w' er (checkF v l).1 (checkF v l).2) := fun e w' h => by
          rcases h with ⟨_, h⟩ | ⟨h, _⟩ | ⟨h, _⟩
          · exact h
          · exact absurd h HZ.out
          · exact absurd h HZ.out
        have HFG := Lib.hid HFF
        generalize (checkF v l).1 = m1 at *
        generalize (checkF v l).2 = m2 at *
        clear hbn HB1 hz HFF HZ
        go_wp2_with fail
        generalize w1.alloc (.cells #[.int .i64 m1, .int .i64 m2] 41) = W2 at *
        refine HFG.out.mono ?_
        rintro e w7 ⟨hR, hb7⟩
        obtain ⟨er, rfl, her⟩ := HFR.out e w7 hR
        have hK7 := HK.out.below hb7 HK.out.lt
        have k0 := hK7.cell 0
        have k1 := hK7.cell 1
        have hB7 : Below w.heap.size w w7 := HB2.out.trans (hb7.mono HB2.out.size)
        have HAT := at_any m1 m1 m2 m2 er w7 (HG.out.below hB7) her
        rw [beq_self_eq_true, beq_self_eq_true, Bool.and_self] at HAT
        have HATT := Lib.hid HAT
        have HB7 := Lib.hid hB7
        clear hR hb7 HFG HAT hB7 hK7 HK HB2 her HFR
        go_wp2_with fail
        refine HATT.out.mono ?_
        rintro e w8 ⟨rfl, hb8⟩
        have HB8 : Hid (Below w.heap.size w w8) := HB7.out.trans (hb8.mono HB7.out.size)
        have HSM := Lib.hid (same_ints [] none none 0 0 w8 (fun i hi => by simp at hi) (fun i hi => by simp at hi) (by simp))
        have HL0 : Hid (([] : List Int).length = 0) := rfl
        rw [HL0.out] at HSM
        clear hb8 HATT HB7
        go_wp2_with fail
        refine HSM.out.mono ?_
        rintro e w9 ⟨rfl, hb9⟩
        have HB9 : Hid (Below w.heap.size w w9) := HB8.out.trans (hb9.mono HB8.out.size)
        clear hb9 HSM HB8
        go_wp2
        go_ret
        exact ⟨by first | rfl | simp, HB9.out⟩
end Go.Proofs.YtcmmoinkhodjfaaDoor
