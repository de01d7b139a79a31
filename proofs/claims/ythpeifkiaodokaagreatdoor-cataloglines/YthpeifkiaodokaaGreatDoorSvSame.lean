/- Same. -/
import Derived.Test.YthpeifkiaodokaaGreatDoorSvOr
namespace Go.Proofs.YthpeifkiaodokaaGreatDoor
open Go.RowKit Sv

theorem sp_ext {l m : List Span} (h : l.length = m.length) (he : ∀ j, j < l.length → sp l j = sp m j) : l = m := by
  apply List.ext_getElem h
  intro i h1 h2
  rw [← sp_at l i h1, ← sp_at m i h2]
  exact he i h1

set_option maxRecDepth 100000 in
set_option maxHeartbeats 1000000 in
theorem equal_len (l m : List Span) (v u : Value) (w : World) (hv : SpAt w v l) (hu : SpAt w u m) (hll : l.length ≤ 500000000) (_hlm : m.length ≤ 500000000) (hlen : l.length = m.length) :
    Calls Tryz.prog 74 #[v, u] w fun e w' => e = .returned (.bool (decide (l = m))) ∧ Below w.heap.size w w' := by
  obtain ⟨a, cap, rfl⟩ := hv.form
  obtain ⟨b, cbp, rfl⟩ := hu.form
  have HLEN := Lib.hid hlen
  have HV := Lib.hid hv
  have HU := Lib.hid hu
  rw [← hlen] at HU
  clear hv hu _hlm
  rw [← hlen]
  clear hlen
  obtain ⟨n, hn⟩ : ∃ n, n = l.length := ⟨_, rfl⟩
  rw [← hn] at HV HU hll ⊢
  have HN := Lib.hid hn
  clear hn
  go_enter Tryz.func74, Tryz.ntmps74
  go_wp2_with fail
  go_loopw [13] (fun iV wr => ∃ k : Nat, k ≤ n ∧ iV = .int .i64 (k : Int) ∧ (∀ j, j < k → sp l j = sp m j) ∧ Below w.heap.size w wr) (fun iV _ => n - (intOf iV).toNat)
  case atStart => exact ⟨0, Nat.zero_le _, rfl, fun j h => by omega, Below.refl _ _⟩
  case round =>
    obtain ⟨k, hk, rfl, hall, hbr⟩ := hrel
    have HALL := Lib.hid hall
    have HBR := Lib.hid hbr
    clear hall hbr
    by_cases hlt : k < n
    · obtain ⟨g, cap', e1, hg, c0, c1⟩ := (HV.out.below HBR.out (Nat.le_refl _)).cells k (by rw [← HN.out]; exact hlt)
      rw [← HN.out] at e1
      simp at e1
      obtain ⟨rfl, rfl⟩ := e1
      obtain ⟨g2, cap2, e2, hg2, d0, d1⟩ := (HU.out.below HBR.out (Nat.le_refl _)).cells k (by rw [← HLEN.out, ← HN.out]; exact hlt)
      rw [← HLEN.out, ← HN.out] at e2
      simp at e2
      obtain ⟨rfl, rfl⟩ := e2
      by_cases hsp : sp l k = sp m k
      · have HSP := Lib.hid hsp
        rw [hsp] at c0 c1
        clear hsp
        generalize (sp m k).1 = A at *
        generalize (sp m k).2 = T at *
        go_wp2_with fail
        go_quiet (fail)
        have hbn : Below w.heap.size w (wr.drewN nq) := ⟨HBR.out.os, HBR.out.tape, HBR.out.output, HBR.out.size, HBR.out.block⟩
        have HBN := Lib.hid hbn
        clear hbn
        go_wp2
        go_roundw
        case rel => exact ⟨k + 1, by omega, by go_num, fun j hj => by
          rcases Nat.lt_succ_iff_lt_or_eq.1 hj with e | e
          · exact HALL.out j e
          · rw [e]; exact HSP.out, HBN.out⟩
        case measure => simp [intOf]; omega
      · have hne : l ≠ m := fun e => hsp (by rw [e])
        have HNE := Lib.hid hne
        have h2 : ¬ ((sp l k).1 = (sp m k).1 ∧ (sp l k).2 = (sp m k).2) := fun ⟨x, y⟩ => hsp (Prod.ext x y)
        clear hne hsp
        generalize (sp l k).1 = A at *
        generalize (sp l k).2 = T at *
        generalize (sp m k).1 = C at *
        generalize (sp m k).2 = D at *
        by_cases hAC : A = C
        · subst hAC
          have hTD : ¬ T = D := fun e => h2 ⟨rfl, e⟩
          have hTD' : ((T : Int) == (D : Int)) = false := by rw [beq_eq_false_iff_ne]; omega
          have hTD2 : ¬ (T : Int) = (D : Int) := by omega
          clear h2
          go_wp2_with fail
          go_quiet (fail)
          have hbn : Below w.heap.size w (wr.drewN nq) := ⟨HBR.out.os, HBR.out.tape, HBR.out.output, HBR.out.size, HBR.out.block⟩
          have HBN := Lib.hid hbn
          clear hbn
          go_wp2
          go_ret
          exact ⟨by rw [decide_eq_false HNE.out]; rfl, HBN.out⟩
        · have hAC' : ((A : Int) == (C : Int)) = false := by rw [beq_eq_false_iff_ne]; omega
          have hAC2 : ¬ (A : Int) = (C : Int) := by omega
          clear h2
          go_wp2_with fail
          go_quiet (fail)
          have hbn : Below w.heap.size w (wr.drewN nq) := ⟨HBR.out.os, HBR.out.tape, HBR.out.output, HBR.out.size, HBR.out.block⟩
          have HBN := Lib.hid hbn
          clear hbn
          go_wp2
          go_ret
          exact ⟨by rw [decide_eq_false HNE.out]; rfl, HBN.out⟩
    · obtain rfl : n = k := by omega
      go_wp2
      go_ret
      exact ⟨by rw [decide_eq_true (sp_ext HLEN.out (by rw [← HN.out]; exact HALL.out))]; rfl, HBR.out⟩

set_option maxRecDepth 100000 in
set_option maxHeartbeats 1000000 in
theorem equal_not (l m : List Span) (v u : Value) (w : World) (hv : SpAt w v l) (hu : SpAt w u m) (hlen : l.length ≠ m.length) :
    Calls Tryz.prog 74 #[v, u] w fun e w' => e = .returned (.bool (decide (l = m))) ∧ Below w.heap.size w w' := by
  obtain ⟨a, cap, rfl⟩ := hv.form
  obtain ⟨b, cbp, rfl⟩ := hu.form
  clear hv hu
  have hb : ((l.length : Int) == (m.length : Int)) = false := by rw [beq_eq_false_iff_ne]; omega
  have HD : Hid (decide (l = m) = false) := decide_eq_false (fun e => hlen (by rw [e]))
  clear hlen
  go_enter Tryz.func74, Tryz.ntmps74
  go_wp2
  go_ret
  exact ⟨by rw [HD.out]; rfl, Below.refl _ _⟩
theorem equal_any (l m : List Span) (hl : Rg l) (hm : Rg m) (v u : Value) (w : World) (hv : SpAt w v l) (hu : SpAt w u m) :
    Calls Tryz.prog 74 #[v, u] w fun e w' => e = .returned (.bool (decide (l = m))) ∧ Below w.heap.size w w' := by
  by_cases h : l.length = m.length
  · exact equal_len l m v u w hv hu (rg_len hl) (rg_len hm) h
  · exact equal_not l m v u w hv hu h

set_option maxRecDepth 100000 in
set_option maxHeartbeats 1000000 in
theorem same_any (l m : List Span) (hl : Rg l) (hm : Rg m) (v u : Value) (w : World) (hv : SpAt w v l) (hu : SpAt w u m) :
    Calls Tryz.prog 24 #[.agg #[v], .agg #[u]] w fun e w' => e = .returned (.bool (decide (l = m))) ∧ Below w.heap.size w w' := by
  have HE : Hid (∀ W, Below w.heap.size w W → Calls Tryz.prog 74 #[v, u] W fun e w' => e = .returned (.bool (decide (l = m))) ∧ Below W.heap.size W w') := fun W hb => equal_any l m hl hm v u W (hv.below hb (Nat.le_refl _)) (hu.below hb (Nat.le_refl _))
  obtain ⟨a, cap, rfl⟩ := hv.form
  obtain ⟨b, cbp, rfl⟩ := hu.form
  clear hv hu hl hm
  generalize decide (l = m) = B at *
  go_enter Tryz.func24, Tryz.ntmps24
  go_wp2_with fail
  have hb0 : Below w.heap.size w ((w.alloc (.cells #[.slice a l.length cap] 31)).alloc (.cells #[.slice b m.length cbp] 31)) := ((Below.refl _ w).alloc (Nat.le_refl _) _).alloc (by simp only [World.size_alloc]; omega) _
  generalize (w.alloc (.cells #[.slice a l.length cap] 31)).alloc (.cells #[.slice b m.length cbp] 31) = W0 at *
  refine (HE.out _ hb0).mono ?_
  rintro e w1 ⟨rfl, hb1⟩
  have HB : Hid (Below w.heap.size w w1) := hb0.trans (hb1.mono hb0.size)
  clear hb0 hb1 HE
  go_wp2
  go_ret
  exact ⟨rfl, HB.out⟩
end Go.Proofs.YthpeifkiaodokaaGreatDoor
