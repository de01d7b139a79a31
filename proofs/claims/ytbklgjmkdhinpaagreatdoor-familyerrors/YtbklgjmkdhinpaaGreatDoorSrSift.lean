/- Heap sort. -/
import Derived.Test.YtbklgjmkdhinpaaGreatDoorSrBase
set_option maxHeartbeats 4000000
set_option maxRecDepth 100000
namespace Go.Proofs.YtbklgjmkdhinpaaGreatDoor.Sr
open Go.RowKit Go.Maps Go.Proofs.YtbklgjmkdhinpaaGreatDoor.Bd Go.Proofs.YtbklgjmkdhinpaaGreatDoor.Fm Go.Sort
theorem sift_end {hi first r : Nat} {d : Array Int} (h : hi <= 2 * r + 1) : siftDown ltInt hi first r d = d := by rw [siftDown, dif_pos h]
theorem sift_at {hi first r c : Nat} {d : Array Int} (h : 2 * r + 1 < hi) (hc : c = if (decide (2 * r + 1 + 1 < hi) && ltInt d[first + (2 * r + 1)]! d[first + (2 * r + 1) + 1]!) = true then 2 * r + 2 else 2 * r + 1) :
  siftDown ltInt hi first r d = if ltInt d[first + r]! d[first + c]! = true then siftDown ltInt hi first c (swp d (first + r) (first + c)) else d := by
 rw [siftDown, dif_neg (by omega)]
 by_cases e : (decide (2 * r + 1 + 1 < hi) && ltInt d[first + (2 * r + 1)]! d[first + (2 * r + 1) + 1]!) = true
 ·rw [if_pos e] at hc ⊢
  subst hc
  have h2 : 2 * r + 2 < hi := by
   rw [Bool.and_eq_true] at e
   have := of_decide_eq_true e.1
   omega
  by_cases l : ltInt d[first + r]! d[first + (2 * r + 2)]! = true
  ·rw [if_pos l, if_neg (by rw [l]; decide), dif_pos h2]
  ·rw [if_neg l, if_pos (by simpa using l)]
 ·rw [if_neg e] at hc ⊢
  subst hc
  by_cases l : ltInt d[first + r]! d[first + (2 * r + 1)]! = true
  ·rw [if_pos l, if_neg (by rw [l]; decide)]
  ·rw [if_neg l, if_pos (by simpa using l)]
theorem sift_any (g cap : Nat) (d : Array Int) (lo hi first : Nat) (w : World) (h : UR w g d) (hb : first + hi <= d.size) (hsz : d.size <= 1000000) (hlo : lo <= hi) :
  Calls Tryz.prog 115 #[.slice (some ⟨g, 0, none⟩) d.size cap, .int .i64 (lo : Int), .int .i64 (hi : Int), .int .i64 (first : Int)] w fun e w' => e = .returned (.tuple #[]) /\ UR w' g (siftDown ltInt hi first lo d) /\ KG g w w' := by
 have h0 := Lib.hid h
 obtain ⟨n, hn⟩ : ∃ n, n = d.size := ⟨_, rfl⟩
 rw [<- hn] at hb hsz ⊢
 have HN := Lib.hid hn
 clear h hn
 go_enter Tryz.func115, Tryz.ntmps115
 go_wp2_with fail
 go_loopw [8] (fun rV wr => ∃ (r : Nat) (dk : Array Int), rV = .int .i64 (r : Int) /\ r <= hi /\ dk.size = n /\ UR wr g dk /\ KG g w wr /\ siftDown ltInt hi first r dk = siftDown ltInt hi first lo d) (fun rV _ => hi - (intOf rV).toNat)
 case atStart => exact ⟨lo, d, rfl, hlo, HN.out.symm, h0.out, Kept.refl _ _, rfl⟩
 case round =>
  obtain ⟨r, dk, rfl, hr, hdk, hU, hK, heq⟩ := hrel
  obtain ⟨c1, hc1⟩ : ∃ c1, c1 = 2 * r + 1 := ⟨_, rfl⟩
  have w1 : IntKind.i64.wrap (2 * (r : Int)) = 2 * (r : Int) := by rw [IntKind.wrap_i64]; omega
  have w2 : 2 * (r : Int) + 1 = (c1 : Int) := by omega
  have w3 : IntKind.i64.wrap (c1 : Int) = (c1 : Int) := by rw [IntKind.wrap_i64]; omega
  have HC1 := Lib.hid hc1
  clear hc1
  by_cases hlt : hi <= c1
  ·have HD := Lib.hid ((sift_end (first := first) (d := dk) (by have := HC1.out; omega)).symm.trans heq)
   have i1 : (hi : Int) <= (c1 : Int) := by omega
   clear heq
   go_wp2
   first | refine bodyPost_end (v := .tuple #[]) (by simp [results, go_sem]) rfl ?_ | refine bodyPost_end (v := .tuple #[]) (by first | simp [results, go_sem] | simp [results, Tryz.results115, go_sem]) rfl ?_ | refine bodyPost_ret (v := .tuple #[]) (by first | simp [results, go_sem] | simp [results, Tryz.results115, go_sem]) rfl ?_
   exact ⟨rfl, by rw [<- HD.out]; exact hU, hK⟩
  ·have i1 : ¬ (hi : Int) <= (c1 : Int) := by omega
   have HAT : Hid (∀ c, c = (if (decide (c1 + 1 < hi) && ltInt dk[first + c1]! dk[first + c1 + 1]!) = true then c1 + 1 else c1) -> siftDown ltInt hi first r dk = if ltInt dk[first + r]! dk[first + c]! = true then siftDown ltInt hi first c (swp dk (first + r) (first + c)) else dk) := fun c hc => by
    have := HC1.out
    subst this
    exact sift_at (by omega) hc
   have HEQ := Lib.hid heq
   have hds := Lib.hid hdk
   have w4 : IntKind.i64.wrap ((c1 : Int) + 1) = ((c1 + 1 : Nat) : Int) := by rw [IntKind.wrap_i64]; omega
   have HUN : Hid (∀ m, UR (wr.drewN m) g dk) := hU.drewN
   have HKN : Hid (∀ m, KG g w (wr.drewN m)) := hK.drewN
   obtain ⟨ir, hir⟩ : ∃ ir, ir = first + r := ⟨_, rfl⟩
   have HIR := Lib.hid hir
   have wr1 : (first : Int) + (r : Int) = (ir : Int) := by omega
   have wr2 : IntKind.i64.wrap (ir : Int) = (ir : Int) := by rw [IntKind.wrap_i64]; omega
   clear heq hir
   by_cases h2 : c1 + 1 < hi
   ·have i2 : (c1 : Int) + 1 < (hi : Int) := by omega
    obtain ⟨ic1, hic1⟩ : ∃ ic, ic = first + c1 := ⟨_, rfl⟩
    have wd1 : (first : Int) + (c1 : Int) = (ic1 : Int) := by omega
    have wd2 : IntKind.i64.wrap (ic1 : Int) = (ic1 : Int) := by rw [IntKind.wrap_i64]; omega
    have wd3 : IntKind.i64.wrap ((ic1 : Int) + 1) = ((ic1 + 1 : Nat) : Int) := by rw [IntKind.wrap_i64]; omega
    have bd1 : ic1 < n /\ ic1 + 1 < n := by omega
    have qd1 : (ic1 : Int) < (n : Int) := by omega
    have qd2 : ((ic1 + 1 : Nat) : Int) < (n : Int) := by omega
    have cu := hU.cell ic1 (by omega)
    have cv := hU.cell (ic1 + 1) (by omega)
    obtain ⟨u, hu⟩ : ∃ x, x = dk[ic1]! := ⟨_, rfl⟩
    obtain ⟨v, hv⟩ : ∃ y, y = dk[ic1 + 1]! := ⟨_, rfl⟩
    have HCC : Hid (∀ B : Bool, decide (u < v) = B -> (if (decide (c1 + 1 < hi) && ltInt dk[first + c1]! dk[first + c1 + 1]!) = true then c1 + 1 else c1) = if B = true then c1 + 1 else c1) := fun B hB => by
     rw [<- hic1, show ltInt dk[ic1]! dk[ic1 + 1]! = B by rw [<- hu, <- hv]; exact hB, decide_eq_true h2, Bool.true_and]
    rw [<- hu] at cu
    rw [<- hv] at cv
    have HIC1 := Lib.hid hic1
    clear hu hv hic1 hU hK hdk
    by_cases huv : u < v
    ·have hd : decide (u < v) = true := by simpa using huv
     have HAC := Lib.hid (HAT.out (c1 + 1) (by rw [HCC.out true hd, if_pos rfl]))
     clear HCC HAT
     go_wp2_with fail
     go_quiet (first | (go_at_call 94; refine Calls.quiet_of_same (lessU_q _ _ _)))
     have HU := Lib.hid (HUN.out nq)
     have HK := Lib.hid (HKN.out nq)
     generalize wr.drewN nq = X at *
     clear HUN HKN cu cv
   
     have hic : (first + (c1 + 1)) = first + (c1 + 1) := rfl
     have wc2 : IntKind.i64.wrap ((first : Int) + ((c1 : Int) + 1)) = (first : Int) + ((c1 : Int) + 1) := by rw [IntKind.wrap_i64]; omega
     have qc3 : (first : Int) + ((c1 : Int) + 1) < (n : Int) := by omega
     have bic : (first + (c1 + 1)) < n /\ ir < n /\ ir < (first + (c1 + 1)) := by have := HIR.out; have := HC1.out; omega
     have qc1 : (((first + (c1 + 1)) : Nat) : Int) < (n : Int) := by omega
     have qc2 : (ir : Int) < (n : Int) := by omega
     have cx := HU.out.cell ir (by have := hds.out; omega)
     have cy := HU.out.cell (first + (c1 + 1)) (by have := hds.out; omega)
     have fx := HU.out.froz ir (by have := hds.out; omega)
     have fy := HU.out.froz (first + (c1 + 1)) (by have := hds.out; omega)
     obtain ⟨x, hx⟩ : ∃ x, x = dk[ir]! := ⟨_, rfl⟩
     obtain ⟨y, hy⟩ : ∃ y, y = dk[(first + (c1 + 1))]! := ⟨_, rfl⟩
     have HA2 : Hid ((if decide (x < y) = true then siftDown ltInt hi first (c1 + 1) (swp dk ir (first + (c1 + 1))) else dk) = siftDown ltInt hi first lo d) := by
      have := HAC.out
      rw [<- HIR.out, <- hic] at this
      rw [hx, hy]
      exact this.symm.trans HEQ.out
     have HSW : Hid (∀ m, UR (((X.drewN m).setCell ⟨g, ir, none⟩ (.int .u64 y)).setCell ⟨g, (first + (c1 + 1)), none⟩ (.int .u64 x)) g (swp dk ir (first + (c1 + 1)))) := fun m => (HU.out.drewN m).swp (by have := hds.out; omega) (by have := hds.out; omega) hx hy
     have HSK : Hid (∀ m, KG g w (((X.drewN m).setCell ⟨g, ir, none⟩ (.int .u64 y)).setCell ⟨g, (first + (c1 + 1)), none⟩ (.int .u64 x))) := fun m => (HK.out.drewN m).trans (KG.swp _ _ _ _ _)
     have HSZ : Hid ((swp dk ir (first + (c1 + 1))).size = n) := by show _ = _; rw [swp_size]; exact hds.out
     have HUM : Hid (∀ m, UR (X.drewN m) g dk) := HU.out.drewN
     have HKM : Hid (∀ m, KG g w (X.drewN m)) := HK.out.drewN
     rw [<- hx] at cx
     rw [<- hy] at cy
     have hne : ¬ ir = (first + (c1 + 1)) := by omega
     clear hx hy hic bic HU HK HAC
     by_cases hxy : x < y
     ·have hd : decide (x < y) = true := by simpa using hxy
      have HQ := Lib.hid (show siftDown ltInt hi first (c1 + 1) (swp dk ir (first + (c1 + 1))) = siftDown ltInt hi first lo d from by rw [<- HA2.out, if_pos hd])
      have hcr : (c1 + 1) <= hi /\ r < (c1 + 1) := by have := HC1.out; omega
      clear HA2 HUM HKM
      go_wp2_with fail
      go_quiet (first | (go_at_call 94; refine Calls.quiet_of_same (lessU_q _ _ _)))
      go_wp2_with fail
      go_region
      go_wp2
      go_roundw
      case rel => exact ⟨(c1 + 1), swp dk ir (first + (c1 + 1)), by go_num, hcr.1, HSZ.out, HSW.out _, HSK.out _, HQ.out⟩
      case measure => simp [intOf]; omega
     ·have hd : decide (x < y) = false := by simpa using hxy
      have HQ := Lib.hid (show dk = siftDown ltInt hi first lo d from by rw [<- HA2.out, if_neg (by rw [hd]; decide)])
      clear HA2 HSW HSK
      go_wp2_with fail
      go_quiet (first | (go_at_call 94; refine Calls.quiet_of_same (lessU_q _ _ _)))
      go_wp2
      first | refine bodyPost_end (v := .tuple #[]) (by simp [results, go_sem]) rfl ?_ | refine bodyPost_end (v := .tuple #[]) (by first | simp [results, go_sem] | simp [results, Tryz.results115, go_sem]) rfl ?_ | refine bodyPost_ret (v := .tuple #[]) (by first | simp [results, go_sem] | simp [results, Tryz.results115, go_sem]) rfl ?_
      exact ⟨rfl, by rw [<- HQ.out]; exact HUM.out _, HKM.out _⟩
    ·have hd : decide (u < v) = false := by simpa using huv
     have HAC := Lib.hid (HAT.out c1 (by rw [HCC.out false hd, if_neg (by decide)]))
     clear HCC HAT
     go_wp2_with fail
     go_quiet (first | (go_at_call 94; refine Calls.quiet_of_same (lessU_q _ _ _)))
     have HU := Lib.hid (HUN.out nq)
     have HK := Lib.hid (HKN.out nq)
     generalize wr.drewN nq = X at *
     clear HUN HKN cu cv
     have hic : ic1 = first + c1 := HIC1.out
     have bic : ic1 < n /\ ir < n /\ ir < ic1 := by have := HIR.out; have := HC1.out; omega
     have qc1 : ((ic1 : Nat) : Int) < (n : Int) := by omega
     have qc2 : (ir : Int) < (n : Int) := by omega
     have cx := HU.out.cell ir (by have := hds.out; omega)
     have cy := HU.out.cell ic1 (by have := hds.out; omega)
     have fx := HU.out.froz ir (by have := hds.out; omega)
     have fy := HU.out.froz ic1 (by have := hds.out; omega)
     obtain ⟨x, hx⟩ : ∃ x, x = dk[ir]! := ⟨_, rfl⟩
     obtain ⟨y, hy⟩ : ∃ y, y = dk[ic1]! := ⟨_, rfl⟩
     have HA2 : Hid ((if decide (x < y) = true then siftDown ltInt hi first c1 (swp dk ir ic1) else dk) = siftDown ltInt hi first lo d) := by
      have := HAC.out
      rw [<- HIR.out, <- hic] at this
      rw [hx, hy]
      exact this.symm.trans HEQ.out
     have HSW : Hid (∀ m, UR (((X.drewN m).setCell ⟨g, ir, none⟩ (.int .u64 y)).setCell ⟨g, ic1, none⟩ (.int .u64 x)) g (swp dk ir ic1)) := fun m => (HU.out.drewN m).swp (by have := hds.out; omega) (by have := hds.out; omega) hx hy
     have HSK : Hid (∀ m, KG g w (((X.drewN m).setCell ⟨g, ir, none⟩ (.int .u64 y)).setCell ⟨g, ic1, none⟩ (.int .u64 x))) := fun m => (HK.out.drewN m).trans (KG.swp _ _ _ _ _)
     have HSZ : Hid ((swp dk ir ic1).size = n) := by show _ = _; rw [swp_size]; exact hds.out
     have HUM : Hid (∀ m, UR (X.drewN m) g dk) := HU.out.drewN
     have HKM : Hid (∀ m, KG g w (X.drewN m)) := HK.out.drewN
     rw [<- hx] at cx
     rw [<- hy] at cy
     have hne : ¬ ir = ic1 := by omega
     clear hx hy hic bic HU HK HAC
     by_cases hxy : x < y
     ·have hd : decide (x < y) = true := by simpa using hxy
      have HQ := Lib.hid (show siftDown ltInt hi first c1 (swp dk ir ic1) = siftDown ltInt hi first lo d from by rw [<- HA2.out, if_pos hd])
      have hcr : c1 <= hi /\ r < c1 := by have := HC1.out; omega
      clear HA2 HUM HKM
      go_wp2_with fail
      go_quiet (first | (go_at_call 94; refine Calls.quiet_of_same (lessU_q _ _ _)))
      go_wp2_with fail
      go_region
      go_wp2
      go_roundw
      case rel => exact ⟨c1, swp dk ir ic1, rfl, hcr.1, HSZ.out, HSW.out _, HSK.out _, HQ.out⟩
      case measure => simp [intOf]; omega
     ·have hd : decide (x < y) = false := by simpa using hxy
      have HQ := Lib.hid (show dk = siftDown ltInt hi first lo d from by rw [<- HA2.out, if_neg (by rw [hd]; decide)])
      clear HA2 HSW HSK
      go_wp2_with fail
      go_quiet (first | (go_at_call 94; refine Calls.quiet_of_same (lessU_q _ _ _)))
      go_wp2
      first | refine bodyPost_end (v := .tuple #[]) (by simp [results, go_sem]) rfl ?_ | refine bodyPost_end (v := .tuple #[]) (by first | simp [results, go_sem] | simp [results, Tryz.results115, go_sem]) rfl ?_ | refine bodyPost_ret (v := .tuple #[]) (by first | simp [results, go_sem] | simp [results, Tryz.results115, go_sem]) rfl ?_
      exact ⟨rfl, by rw [<- HQ.out]; exact HUM.out _, HKM.out _⟩
   ·have i2 : decide ((c1 : Int) + 1 < (hi : Int)) = false := by simp; omega
    have HAC := Lib.hid (HAT.out c1 (by rw [if_neg (by simp; omega)]))
    clear HAT hU hK hdk
    go_wp2_with fail
    go_quiet (fail)
    have HU := Lib.hid (HUN.out nq)
    have HK := Lib.hid (HKN.out nq)
    generalize wr.drewN nq = X at *
    clear HUN HKN
    obtain ⟨ic, hic⟩ : ∃ ic, ic = first + c1 := ⟨_, rfl⟩
    have wc1 : (first : Int) + (c1 : Int) = (ic : Int) := by omega
    have wc2 : IntKind.i64.wrap (ic : Int) = (ic : Int) := by rw [IntKind.wrap_i64]; omega
    have bic : ic < n /\ ir < n /\ ir < ic := by have := HIR.out; have := HC1.out; omega
    have qc1 : ((ic : Nat) : Int) < (n : Int) := by omega
    have qc2 : (ir : Int) < (n : Int) := by omega
    have cx := HU.out.cell ir (by have := hds.out; omega)
    have cy := HU.out.cell ic (by have := hds.out; omega)
    have fx := HU.out.froz ir (by have := hds.out; omega)
    have fy := HU.out.froz ic (by have := hds.out; omega)
    obtain ⟨x, hx⟩ : ∃ x, x = dk[ir]! := ⟨_, rfl⟩
    obtain ⟨y, hy⟩ : ∃ y, y = dk[ic]! := ⟨_, rfl⟩
    have HA2 : Hid ((if decide (x < y) = true then siftDown ltInt hi first c1 (swp dk ir ic) else dk) = siftDown ltInt hi first lo d) := by
     have := HAC.out
     rw [<- HIR.out, <- hic] at this
     rw [hx, hy]
     exact this.symm.trans HEQ.out
    have HSW : Hid (∀ m, UR (((X.drewN m).setCell ⟨g, ir, none⟩ (.int .u64 y)).setCell ⟨g, ic, none⟩ (.int .u64 x)) g (swp dk ir ic)) := fun m => (HU.out.drewN m).swp (by have := hds.out; omega) (by have := hds.out; omega) hx hy
    have HSK : Hid (∀ m, KG g w (((X.drewN m).setCell ⟨g, ir, none⟩ (.int .u64 y)).setCell ⟨g, ic, none⟩ (.int .u64 x))) := fun m => (HK.out.drewN m).trans (KG.swp _ _ _ _ _)
    have HSZ : Hid ((swp dk ir ic).size = n) := by show _ = _; rw [swp_size]; exact hds.out
    have HUM : Hid (∀ m, UR (X.drewN m) g dk) := HU.out.drewN
    have HKM : Hid (∀ m, KG g w (X.drewN m)) := HK.out.drewN
    rw [<- hx] at cx
    rw [<- hy] at cy
    have hne : ¬ ir = ic := by omega
    clear hx hy hic bic HU HK HAC
    by_cases hxy : x < y
    ·have hd : decide (x < y) = true := by simpa using hxy
     have HQ := Lib.hid (show siftDown ltInt hi first c1 (swp dk ir ic) = siftDown ltInt hi first lo d from by rw [<- HA2.out, if_pos hd])
     have hcr : c1 <= hi /\ r < c1 := by have := HC1.out; omega
     clear HA2 HUM HKM
     go_wp2_with fail
     go_quiet (first | (go_at_call 94; refine Calls.quiet_of_same (lessU_q _ _ _)))
     go_wp2_with fail
     go_region
     go_wp2
     go_roundw
     case rel => exact ⟨c1, swp dk ir ic, rfl, hcr.1, HSZ.out, HSW.out _, HSK.out _, HQ.out⟩
     case measure => simp [intOf]; omega
    ·have hd : decide (x < y) = false := by simpa using hxy
     have HQ := Lib.hid (show dk = siftDown ltInt hi first lo d from by rw [<- HA2.out, if_neg (by rw [hd]; decide)])
     clear HA2 HSW HSK
     go_wp2_with fail
     go_quiet (first | (go_at_call 94; refine Calls.quiet_of_same (lessU_q _ _ _)))
     go_wp2
     first | refine bodyPost_end (v := .tuple #[]) (by simp [results, go_sem]) rfl ?_ | refine bodyPost_end (v := .tuple #[]) (by first | simp [results, go_sem] | simp [results, Tryz.results115, go_sem]) rfl ?_ | refine bodyPost_ret (v := .tuple #[]) (by first | simp [results, go_sem] | simp [results, Tryz.results115, go_sem]) rfl ?_
     exact ⟨rfl, by rw [<- HQ.out]; exact HUM.out _, HKM.out _⟩
end Go.Proofs.YtbklgjmkdhinpaaGreatDoor.Sr
