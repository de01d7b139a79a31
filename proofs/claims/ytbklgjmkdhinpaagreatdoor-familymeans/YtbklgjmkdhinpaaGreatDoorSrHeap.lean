/- Heap sort, whole. -/
import Derived.Test.YtbklgjmkdhinpaaGreatDoorSrBase
set_option maxHeartbeats 4000000
set_option maxRecDepth 100000
namespace Go.Proofs.YtbklgjmkdhinpaaGreatDoor.Sr
open Go.RowKit Go.Maps Go.Proofs.YtbklgjmkdhinpaaGreatDoor.Bd Go.Proofs.YtbklgjmkdhinpaaGreatDoor.Fm Go.Sort
theorem sift_end {hi first r : Nat} {d : Array Int} (h : hi <= 2 * r + 1) : siftDown ltInt hi first r d = d := by rw [siftDown, dif_pos h]
theorem sift_at {hi first r c : Nat} {d : Array Int} (h : 2 * r + 1 < hi) (hc : c = if (decide (2 * r + 1 + 1 < hi) && ltInt d[first + (2 * r + 1)]! d[first + (2 * r + 1) + 1]!) = true then 2 * r + 2 else 2 * r + 1) :
  siftDown ltInt hi first r d = if ltInt d[first + r]! d[first + c]! = true then siftDown ltInt hi first c (swp d (first + r) (first + c)) else d := by
 rw [siftDown, dif_neg (by omega)]
 by_cases e : (decide (2 * r + 1 + 1 < hi) && ltInt d[first + (2 * r + 1)]! d[first + (2 * r + 1) + 1]!) = true
 ·rw [if_pos e] at hc ⊢
  subst hc
  have h2 : 2 * r + 2 < hi := by
   rw [Bool.and_eq_true] at e
   have := of_decide_eq_true e.1
   omega
  by_cases l : ltInt d[first + r]! d[first + (2 * r + 2)]! = true
  ·rw [if_pos l, if_neg (by rw [l]; decide), dif_pos h2]
  ·rw [if_neg l, if_pos (by simpa using l)]
 ·rw [if_neg e] at hc ⊢
  subst hc
  by_cases l : ltInt d[first + r]! d[first + (2 * r + 1)]! = true
  ·rw [if_pos l, if_neg (by rw [l]; decide)]
  ·rw [if_neg l, if_pos (by simpa using l)]
theorem sift_any (g cap : Nat) (d : Array Int) (lo hi first : Nat) (w : World) (h : UR w g d) (hb : first + hi <= d.size) (hsz : d.size <= 1000000) (hlo : lo <= hi) :
  Calls Tryz.prog 115 #[.slice (some ⟨g, 0, none⟩) d.size cap, .int .i64 (lo : Int), .int .i64 (hi : Int), .int .i64 (first : Int)] w fun e w' => e = .returned (.tuple #[]) /\ UR w' g (siftDown ltInt hi first lo d) /\ KG g w w' := by
 have h0 := Lib.hid h
 obtain ⟨n, hn⟩ : ∃ n, n = d.size := ⟨_, rfl⟩
 rw [<- hn] at hb hsz ⊢
 have HN := Lib.hid hn
 clear h hn
 go_enter Tryz.func115, Tryz.ntmps115
 go_wp2_with fail
 go_loopw [8] (fun rV wr => ∃ (r : Nat) (dk : Array Int), rV = .int .i64 (r : Int) /\ r <= hi /\ dk.size = n /\ UR wr g dk /\ KG g w wr /\ siftDown ltInt hi first r dk = siftDown ltInt hi first lo d) (fun rV _ => hi - (intOf rV).toNat)
 case atStart => exact ⟨lo, d, rfl, hlo, HN.out.symm, h0.out, Kept.refl _ _, rfl⟩
 case round =>
  obtain ⟨r, dk, rfl, hr, hdk, hU, hK, heq⟩ := hrel
  obtain ⟨c1, hc1⟩ : ∃ c1, c1 = 2 * r + 1 := ⟨_, rfl⟩
  have w1 : IntKind.i64.wrap (2 * (r : Int)) = 2 * (r : Int) := by rw [IntKind.wrap_i64]; omega
  have w2 : 2 * (r : Int) + 1 = (c1 : Int) := by omega
  have w3 : IntKind.i64.wrap (c1 : Int) = (c1 : Int) := by rw [IntKind.wrap_i64]; omega
  have HC1 := Lib.hid hc1
  clear hc1
  by_cases hlt : hi <= c1
  ·have HD := Lib.hid ((sift_end (first := first) (d := dk) (by have := HC1.out; omega)).symm.trans heq)
   have i1 : (hi : Int) <= (c1 : Int) := by omega
   clear heq
   go_wp2
   first | refine bodyPost_end (v := .tuple #[]) (by simp [results, go_sem]) rfl ?_ | refine bodyPost_end (v := .tuple #[]) (by first | simp [results, go_sem] | simp [results, Tryz.results115, go_sem]) rfl ?_ | refine bodyPost_ret (v := .tuple #[]) (by first | simp [results, go_sem] | simp [results, Tryz.results115, go_sem]) rfl ?_
   exact ⟨rfl, by rw [<- HD.out]; exact hU, hK⟩
  ·have i1 : ¬ (hi : Int) <= (c1 : Int) := by omega
   have HAT : Hid (∀ c, c = (if (decide (c1 + 1 < hi) && ltInt dk[first + c1]! dk[first + c1 + 1]!) = true then c1 + 1 else c1) -> siftDown ltInt hi first r dk = if ltInt dk[first + r]! dk[first + c]! = true then siftDown ltInt hi first c (swp dk (first + r) (first + c)) else dk) := fun c hc => by
    have := HC1.out
    subst this
    exact sift_at (by omega) hc
   have HEQ := Lib.hid heq
   have hds := Lib.hid hdk
   have w4 : IntKind.i64.wrap ((c1 : Int) + 1) = ((c1 + 1 : Nat) : Int) := by rw [IntKind.wrap_i64]; omega
   have HUN : Hid (∀ m, UR (wr.drewN m) g dk) := hU.drewN
   have HKN : Hid (∀ m, KG g w (wr.drewN m)) := hK.drewN
   obtain ⟨ir, hir⟩ : ∃ ir, ir = first + r := ⟨_, rfl⟩
   have HIR := Lib.hid hir
   have wr1 : (first : Int) + (r : Int) = (ir : Int) := by omega
   have wr2 : IntKind.i64.wrap (ir : Int) = (ir : Int) := by rw [IntKind.wrap_i64]; omega
   clear heq hir
   by_cases h2 : c1 + 1 < hi
   ·have i2 : (c1 : Int) + 1 < (hi : Int) := by omega
    obtain ⟨ic1, hic1⟩ : ∃ ic, ic = first + c1 := ⟨_, rfl⟩
    have wd1 : (first : Int) + (c1 : Int) = (ic1 : Int) := by omega
    have wd2 : IntKind.i64.wrap (ic1 : Int) = (ic1 : Int) := by rw [IntKind.wrap_i64]; omega
    have wd3 : IntKind.i64.wrap ((ic1 : Int) + 1) = ((ic1 + 1 : Nat) : Int) := by rw [IntKind.wrap_i64]; omega
    have bd1 : ic1 < n /\ ic1 + 1 < n := by omega
    have qd1 : (ic1 : Int) < (n : Int) := by omega
    have qd2 : ((ic1 + 1 : Nat) : Int) < (n : Int) := by omega
    have cu := hU.cell ic1 (by omega)
    have cv := hU.cell (ic1 + 1) (by omega)
    obtain ⟨u, hu⟩ : ∃ x, x = dk[ic1]! := ⟨_, rfl⟩
    obtain ⟨v, hv⟩ : ∃ y, y = dk[ic1 + 1]! := ⟨_, rfl⟩
    have HCC : Hid (∀ B : Bool, decide (u < v) = B -> (if (decide (c1 + 1 < hi) && ltInt dk[first + c1]! dk[first + c1 + 1]!) = true then c1 + 1 else c1) = if B = true then c1 + 1 else c1) := fun B hB => by
     rw [<- hic1, show ltInt dk[ic1]! dk[ic1 + 1]! = B by rw [<- hu, <- hv]; exact hB, decide_eq_true h2, Bool.true_and]
    rw [<- hu] at cu
    rw [<- hv] at cv
    have HIC1 := Lib.hid hic1
    clear hu hv hic1 hU hK hdk
    by_cases huv : u < v
    ·have hd : decide (u < v) = true := by simpa using huv
     have HAC := Lib.hid (HAT.out (c1 + 1) (by rw [HCC.out true hd, if_pos rfl]))
     clear HCC HAT
     go_wp2_with fail
     go_quiet (first | (go_at_call 94; refine Calls.quiet_of_same (lessU_q _ _ _)))
     have HU := Lib.hid (HUN.out nq)
     have HK := Lib.hid (HKN.out nq)
     generalize wr.drewN nq = X at *
     clear HUN HKN cu cv
   
     have hic : (first + (c1 + 1)) = first + (c1 + 1) := rfl
     have wc2 : IntKind.i64.wrap ((first : Int) + ((c1 : Int) + 1)) = (first : Int) + ((c1 : Int) + 1) := by rw [IntKind.wrap_i64]; omega
     have qc3 : (first : Int) + ((c1 : Int) + 1) < (n : Int) := by omega
     have bic : (first + (c1 + 1)) < n /\ ir < n /\ ir < (first + (c1 + 1)) := by have := HIR.out; have := HC1.out; omega
     have qc1 : (((first + (c1 + 1)) : Nat) : Int) < (n : Int) := by omega
     have qc2 : (ir : Int) < (n : Int) := by omega
     have cx := HU.out.cell ir (by have := hds.out; omega)
     have cy := HU.out.cell (first + (c1 + 1)) (by have := hds.out; omega)
     have fx := HU.out.froz ir (by have := hds.out; omega)
     have fy := HU.out.froz (first + (c1 + 1)) (by have := hds.out; omega)
     obtain ⟨x, hx⟩ : ∃ x, x = dk[ir]! := ⟨_, rfl⟩
     obtain ⟨y, hy⟩ : ∃ y, y = dk[(first + (c1 + 1))]! := ⟨_, rfl⟩
     have HA2 : Hid ((if decide (x < y) = true then siftDown ltInt hi first (c1 + 1) (swp dk ir (first + (c1 + 1))) else dk) = siftDown ltInt hi first lo d) := by
      have := HAC.out
      rw [<- HIR.out, <- hic] at this
      rw [hx, hy]
      exact this.symm.trans HEQ.out
     have HSW : Hid (∀ m, UR (((X.drewN m).setCell ⟨g, ir, none⟩ (.int .u64 y)).setCell ⟨g, (first + (c1 + 1)), none⟩ (.int .u64 x)) g (swp dk ir (first + (c1 + 1)))) := fun m => (HU.out.drewN m).swp (by have := hds.out; omega) (by have := hds.out; omega) hx hy
     have HSK : Hid (∀ m, KG g w (((X.drewN m).setCell ⟨g, ir, none⟩ (.int .u64 y)).setCell ⟨g, (first + (c1 + 1)), none⟩ (.int .u64 x))) := fun m => (HK.out.drewN m).trans (KG.swp _ _ _ _ _)
     have HSZ : Hid ((swp dk ir (first + (c1 + 1))).size = n) := by show _ = _; rw [swp_size]; exact hds.out
     have HUM : Hid (∀ m, UR (X.drewN m) g dk) := HU.out.drewN
     have HKM : Hid (∀ m, KG g w (X.drewN m)) := HK.out.drewN
     rw [<- hx] at cx
     rw [<- hy] at cy
     have hne : ¬ ir = (first + (c1 + 1)) := by omega
     clear hx hy hic bic HU HK HAC
     by_cases hxy : x < y
     ·have hd : decide (x < y) = true := by simpa using hxy
      have HQ := Lib.hid (show siftDown ltInt hi first (c1 + 1) (swp dk ir (first + (c1 + 1))) = siftDown ltInt hi first lo d from by rw [<- HA2.out, if_pos hd])
      have hcr : (c1 + 1) <= hi /\ r < (c1 + 1) := by have := HC1.out; omega
      clear HA2 HUM HKM
      go_wp2_with fail
      go_quiet (first | (go_at_call 94; refine Calls.quiet_of_same (lessU_q _ _ _)))
      go_wp2_with fail
      go_region
      go_wp2
      go_roundw
      case rel => exact ⟨(c1 + 1), swp dk ir (first + (c1 + 1)), by go_num, hcr.1, HSZ.out, HSW.out _, HSK.out _, HQ.out⟩
      case measure => simp [intOf]; omega
     ·have hd : decide (x < y) = false := by simpa using hxy
      have HQ := Lib.hid (show dk = siftDown ltInt hi first lo d from by rw [<- HA2.out, if_neg (by rw [hd]; decide)])
      clear HA2 HSW HSK
      go_wp2_with fail
      go_quiet (first | (go_at_call 94; refine Calls.quiet_of_same (lessU_q _ _ _)))
      go_wp2
      first | refine bodyPost_end (v := .tuple #[]) (by simp [results, go_sem]) rfl ?_ | refine bodyPost_end (v := .tuple #[]) (by first | simp [results, go_sem] | simp [results, Tryz.results115, go_sem]) rfl ?_ | refine bodyPost_ret (v := .tuple #[]) (by first | simp [results, go_sem] | simp [results, Tryz.results115, go_sem]) rfl ?_
      exact ⟨rfl, by rw [<- HQ.out]; exact HUM.out _, HKM.out _⟩
    ·have hd : decide (u < v) = false := by simpa using huv
     have HAC := Lib.hid (HAT.out c1 (by rw [HCC.out false hd, if_neg (by decide)]))
     clear HCC HAT
     go_wp2_with fail
     go_quiet (first | (go_at_call 94; refine Calls.quiet_of_same (lessU_q _ _ _)))
     have HU := Lib.hid (HUN.out nq)
     have HK := Lib.hid (HKN.out nq)
     generalize wr.drewN nq = X at *
     clear HUN HKN cu cv
     have hic : ic1 = first + c1 := HIC1.out
     have bic : ic1 < n /\ ir < n /\ ir < ic1 := by have := HIR.out; have := HC1.out; omega
     have qc1 : ((ic1 : Nat) : Int) < (n : Int) := by omega
     have qc2 : (ir : Int) < (n : Int) := by omega
     have cx := HU.out.cell ir (by have := hds.out; omega)
     have cy := HU.out.cell ic1 (by have := hds.out; omega)
     have fx := HU.out.froz ir (by have := hds.out; omega)
     have fy := HU.out.froz ic1 (by have := hds.out; omega)
     obtain ⟨x, hx⟩ : ∃ x, x = dk[ir]! := ⟨_, rfl⟩
     obtain ⟨y, hy⟩ : ∃ y, y = dk[ic1]! := ⟨_, rfl⟩
     have HA2 : Hid ((if decide (x < y) = true then siftDown ltInt hi first c1 (swp dk ir ic1) else dk) = siftDown ltInt hi first lo d) := by
      have := HAC.out
      rw [<- HIR.out, <- hic] at this
      rw [hx, hy]
      exact this.symm.trans HEQ.out
     have HSW : Hid (∀ m, UR (((X.drewN m).setCell ⟨g, ir, none⟩ (.int .u64 y)).setCell ⟨g, ic1, none⟩ (.int .u64 x)) g (swp dk ir ic1)) := fun m => (HU.out.drewN m).swp (by have := hds.out; omega) (by have := hds.out; omega) hx hy
     have HSK : Hid (∀ m, KG g w (((X.drewN m).setCell ⟨g, ir, none⟩ (.int .u64 y)).setCell ⟨g, ic1, none⟩ (.int .u64 x))) := fun m => (HK.out.drewN m).trans (KG.swp _ _ _ _ _)
     have HSZ : Hid ((swp dk ir ic1).size = n) := by show _ = _; rw [swp_size]; exact hds.out
     have HUM : Hid (∀ m, UR (X.drewN m) g dk) := HU.out.drewN
     have HKM : Hid (∀ m, KG g w (X.drewN m)) := HK.out.drewN
     rw [<- hx] at cx
     rw [<- hy] at cy
     have hne : ¬ ir = ic1 := by omega
     clear hx hy hic bic HU HK HAC
     by_cases hxy : x < y
     ·have hd : decide (x < y) = true := by simpa using hxy
      have HQ := Lib.hid (show siftDown ltInt hi first c1 (swp dk ir ic1) = siftDown ltInt hi first lo d from by rw [<- HA2.out, if_pos hd])
      have hcr : c1 <= hi /\ r < c1 := by have := HC1.out; omega
      clear HA2 HUM HKM
      go_wp2_with fail
      go_quiet (first | (go_at_call 94; refine Calls.quiet_of_same (lessU_q _ _ _)))
      go_wp2_with fail
      go_region
      go_wp2
      go_roundw
      case rel => exact ⟨c1, swp dk ir ic1, rfl, hcr.1, HSZ.out, HSW.out _, HSK.out _, HQ.out⟩
      case measure => simp [intOf]; omega
     ·have hd : decide (x < y) = false := by simpa using hxy
      have HQ := Lib.hid (show dk = siftDown ltInt hi first lo d from by rw [<- HA2.out, if_neg (by rw [hd]; decide)])
      clear HA2 HSW HSK
      go_wp2_with fail
      go_quiet (first | (go_at_call 94; refine Calls.quiet_of_same (lessU_q _ _ _)))
      go_wp2
      first | refine bodyPost_end (v := .tuple #[]) (by simp [results, go_sem]) rfl ?_ | refine bodyPost_end (v := .tuple #[]) (by first | simp [results, go_sem] | simp [results, Tryz.results115, go_sem]) rfl ?_ | refine bodyPost_ret (v := .tuple #[]) (by first | simp [results, go_sem] | simp [results, Tryz.results115, go_sem]) rfl ?_
      exact ⟨rfl, by rw [<- HQ.out]; exact HUM.out _, HKM.out _⟩
   ·have i2 : decide ((c1 : Int) + 1 < (hi : Int)) = false := by simp; omega
    have HAC := Lib.hid (HAT.out c1 (by rw [if_neg (by simp; omega)]))
    clear HAT hU hK hdk
    go_wp2_with fail
    go_quiet (fail)
    have HU := Lib.hid (HUN.out nq)
    have HK := Lib.hid (HKN.out nq)
    generalize wr.drewN nq = X at *
    clear HUN HKN
    obtain ⟨ic, hic⟩ : ∃ ic, ic = first + c1 := ⟨_, rfl⟩
    have wc1 : (first : Int) + (c1 : Int) = (ic : Int) := by omega
    have wc2 : IntKind.i64.wrap (ic : Int) = (ic : Int) := by rw [IntKind.wrap_i64]; omega
    have bic : ic < n /\ ir < n /\ ir < ic := by have := HIR.out; have := HC1.out; omega
    have qc1 : ((ic : Nat) : Int) < (n : Int) := by omega
    have qc2 : (ir : Int) < (n : Int) := by omega
    have cx := HU.out.cell ir (by have := hds.out; omega)
    have cy := HU.out.cell ic (by have := hds.out; omega)
    have fx := HU.out.froz ir (by have := hds.out; omega)
    have fy := HU.out.froz ic (by have := hds.out; omega)
    obtain ⟨x, hx⟩ : ∃ x, x = dk[ir]! := ⟨_, rfl⟩
    obtain ⟨y, hy⟩ : ∃ y, y = dk[ic]! := ⟨_, rfl⟩
    have HA2 : Hid ((if decide (x < y) = true then siftDown ltInt hi first c1 (swp dk ir ic) else dk) = siftDown ltInt hi first lo d) := by
     have := HAC.out
     rw [<- HIR.out, <- hic] at this
     rw [hx, hy]
     exact this.symm.trans HEQ.out
    have HSW : Hid (∀ m, UR (((X.drewN m).setCell ⟨g, ir, none⟩ (.int .u64 y)).setCell ⟨g, ic, none⟩ (.int .u64 x)) g (swp dk ir ic)) := fun m => (HU.out.drewN m).swp (by have := hds.out; omega) (by have := hds.out; omega) hx hy
    have HSK : Hid (∀ m, KG g w (((X.drewN m).setCell ⟨g, ir, none⟩ (.int .u64 y)).setCell ⟨g, ic, none⟩ (.int .u64 x))) := fun m => (HK.out.drewN m).trans (KG.swp _ _ _ _ _)
    have HSZ : Hid ((swp dk ir ic).size = n) := by show _ = _; rw [swp_size]; exact hds.out
    have HUM : Hid (∀ m, UR (X.drewN m) g dk) := HU.out.drewN
    have HKM : Hid (∀ m, KG g w (X.drewN m)) := HK.out.drewN
    rw [<- hx] at cx
    rw [<- hy] at cy
    have hne : ¬ ir = ic := by omega
    clear hx hy hic bic HU HK HAC
    by_cases hxy : x < y
    ·have hd : decide (x < y) = true := by simpa using hxy
     have HQ := Lib.hid (show siftDown ltInt hi first c1 (swp dk ir ic) = siftDown ltInt hi first lo d from by rw [<- HA2.out, if_pos hd])
     have hcr : c1 <= hi /\ r < c1 := by have := HC1.out; omega
     clear HA2 HUM HKM
     go_wp2_with fail
     go_quiet (first | (go_at_call 94; refine Calls.quiet_of_same (lessU_q _ _ _)))
     go_wp2_with fail
     go_region
     go_wp2
     go_roundw
     case rel => exact ⟨c1, swp dk ir ic, rfl, hcr.1, HSZ.out, HSW.out _, HSK.out _, HQ.out⟩
     case measure => simp [intOf]; omega
    ·have hd : decide (x < y) = false := by simpa using hxy
     have HQ := Lib.hid (show dk = siftDown ltInt hi first lo d from by rw [<- HA2.out, if_neg (by rw [hd]; decide)])
     clear HA2 HSW HSK
     go_wp2_with fail
     go_quiet (first | (go_at_call 94; refine Calls.quiet_of_same (lessU_q _ _ _)))
     go_wp2
     first | refine bodyPost_end (v := .tuple #[]) (by simp [results, go_sem]) rfl ?_ | refine bodyPost_end (v := .tuple #[]) (by first | simp [results, go_sem] | simp [results, Tryz.results115, go_sem]) rfl ?_ | refine bodyPost_ret (v := .tuple #[]) (by first | simp [results, go_sem] | simp [results, Tryz.results115, go_sem]) rfl ?_
     exact ⟨rfl, by rw [<- HQ.out]; exact HUM.out _, HKM.out _⟩
end Go.Proofs.YtbklgjmkdhinpaaGreatDoor.Sr
namespace Go.Proofs.YtbklgjmkdhinpaaGreatDoor.Sr
open Go.RowKit Go.Maps Go.Proofs.YtbklgjmkdhinpaaGreatDoor.Bd Go.Proofs.YtbklgjmkdhinpaaGreatDoor.Fm Go.Sort
theorem sift_size (hi first : Nat) : ∀ (m r : Nat) (d : Array Int), hi - r <= m -> (siftDown ltInt hi first r d).size = d.size
 | 0, r, d, h => by rw [sift_end (by omega)]
 | m + 1, r, d, h => by
  by_cases e : hi <= 2 * r + 1
  ·rw [sift_end e]
  ·obtain ⟨c, hc⟩ : ∃ c, c = if (decide (2 * r + 1 + 1 < hi) && ltInt d[first + (2 * r + 1)]! d[first + (2 * r + 1) + 1]!) = true then 2 * r + 2 else 2 * r + 1 := ⟨_, rfl⟩
   have hc2 : c = 2 * r + 2 \/ c = 2 * r + 1 := by rw [hc]; split <;> simp
   rw [sift_at (by omega) hc]
   split
   ·rw [sift_size hi first m _ _ (by omega), swp_size]
   ·rfl
theorem heap_any (g cap : Nat) (d : Array Int) (a b : Nat) (w : World) (h : UR w g d) (hab : a < b) (hb : b <= d.size) (hsz : d.size <= 1000000) :
  Calls Tryz.prog 89 #[.slice (some ⟨g, 0, none⟩) d.size cap, .int .i64 (a : Int), .int .i64 (b : Int)] w fun e w' => e = .returned (.tuple #[]) /\ UR w' g (heapSort ltInt d a b) /\ KG g w w' := by
 have h0 := Lib.hid h
 obtain ⟨n, hn⟩ : ∃ n, n = d.size := ⟨_, rfl⟩
 obtain ⟨hi, hhi⟩ : ∃ hi, hi = b - a := ⟨_, rfl⟩
 obtain ⟨q, hq⟩ : ∃ q, q = (hi - 1) / 2 := ⟨_, rfl⟩
 have HS : Hid (heapSort ltInt d a b = heapPop ltInt a hi (heapBuild ltInt hi a (q + 1) d)) := by subst hq hhi; exact rfl
 rw [HS.out]
 rw [<- hn] at hb hsz ⊢
 have HN := Lib.hid hn
 have w1 : IntKind.i64.wrap ((b : Int) - (a : Int)) = (hi : Int) := by rw [IntKind.wrap_i64]; omega
 have w2 : IntKind.i64.wrap ((hi : Int) - 1) = ((hi - 1 : Nat) : Int) := by rw [IntKind.wrap_i64]; omega
 have w3 : ((hi - 1 : Nat) : Int) / 2 = (q : Int) := by omega
 have bh : 0 < hi /\ a + hi <= n /\ q < hi := by omega
 clear h hn hhi hq HS
 go_enter Tryz.func89, Tryz.ntmps89
 go_wp2_with fail
 go_loopw [9] (fun iV wr => ∃ (z : Int) (k : Nat) (dk : Array Int), iV = .int .i64 z /\ z = (k : Int) - 1 /\ k <= q + 1 /\ dk.size = n /\ UR wr g dk /\ KG g w wr /\ heapBuild ltInt hi a k dk = heapBuild ltInt hi a (q + 1) d) (fun iV _ => (intOf iV + 1).toNat)
 case atStart => exact ⟨_, q + 1, d, rfl, by omega, Nat.le_refl _, HN.out.symm, h0.out, Kept.refl _ _, rfl⟩
 case round =>
  obtain ⟨z, k, dk, rfl, hz, hk, hdk, hU, hK, heq⟩ := hrel
  cases k with
  | succ m =>
   have hzm : z = (m : Int) := by omega
   subst hzm
   clear hz
   have hds := Lib.hid hdk
   have HC := sift_any g cap dk m hi a wr hU (by omega) (by omega) (by omega)
   rw [hdk] at HC
   have HCC := Lib.hid HC
   have HK := Lib.hid hK
   have HQ : Hid (heapBuild ltInt hi a m (siftDown ltInt hi a m dk) = heapBuild ltInt hi a (q + 1) d) := heq
   clear hU hK heq hdk HC
   go_wp2_with fail
   refine HCC.out.mono ?_
   rintro e w4 ⟨rfl, hU4, hK4⟩
   have HU4 := Lib.hid hU4
   have HK4 := Lib.hid (HK.out.trans hK4)
   clear hU4 hK4 HCC HK
   go_wp2
   go_roundw
   case rel => exact ⟨_, m, siftDown ltInt hi a m dk, rfl, rfl, by omega, by rw [sift_size hi a hi m dk (by omega)]; exact hds.out, HU4.out, HK4.out, HQ.out⟩
   case measure => first | (simp [intOf]; done) | (simp [intOf]; omega)
  | zero =>
   have hzm : z = -1 := by omega
   subst hzm
   obtain ⟨d1, hd1⟩ : ∃ d1, d1 = heapBuild ltInt hi a (q + 1) d := ⟨_, rfl⟩
   have e1 : dk = d1 := by rw [hd1, <- heq]; rfl
   subst e1
   have HD1 := Lib.hid hd1
   have HST : Hid (∃ (z : Int) (k : Nat) (de : Array Int), Value.int .i64 ((hi - 1 : Nat) : Int) = .int .i64 z /\ z = (k : Int) - 1 /\ k <= hi /\ de.size = n /\ UR wr g de /\ KG g w wr /\ heapPop ltInt a k de = heapPop ltInt a hi dk) := ⟨_, hi, dk, rfl, by omega, Nat.le_refl _, hdk, hU, hK, rfl⟩
   clear hU hK heq hd1 hz hdk w3
   go_wp2_with fail
   go_loopw [10] (fun iV wq => ∃ (z : Int) (k : Nat) (de : Array Int), iV = .int .i64 z /\ z = (k : Int) - 1 /\ k <= hi /\ de.size = n /\ UR wq g de /\ KG g w wq /\ heapPop ltInt a k de = heapPop ltInt a hi dk) (fun iV _ => (intOf iV + 1).toNat)
   case atStart => exact HST.out
   case round =>
    obtain ⟨z, k, de, rfl, hz, hk, hdk, hU, hK, heq⟩ := hrel
    clear HST
    cases k with
    | succ m =>
     have hzm : z = (m : Int) := by omega
     subst hzm
     clear hz w2
     by_cases hm0 : m = 0
     ·subst hm0
      have hds : Hid ((swp de a a).size = n) := by show _ = _; rw [swp_size]; exact hdk
      have cx := hU.cell a (by omega)
      have fx := hU.froz a (by omega)
      obtain ⟨x, hx⟩ : ∃ x, x = de[a]! := ⟨_, rfl⟩
      have HSW := Lib.hid (hU.swp (i := a) (j := a) (by omega) (by omega) hx hx).drew
      have HSK := Lib.hid (hK.trans (KG.swp (g := g) wr a a (.int .u64 x) (.int .u64 x))).drew
      have HQ : Hid (heapPop ltInt a 0 (siftDown ltInt 0 a 0 (swp de a a)) = heapPop ltInt a hi dk) := heq
      have i1 : (a : Int) < (n : Int) := by omega
      rw [<- hx] at cx
      clear hU hK heq hx hdk
      go_wp2_with fail
      go_region
      obtain ⟨W, hW⟩ : ∃ W, W = ((wr.setCell ⟨g, a, none⟩ (.int .u64 x)).setCell ⟨g, a, none⟩ (.int .u64 x)).drew := ⟨_, rfl⟩
      rw [<- hW] at HSW HSK ⊢
      clear hW cx fx
      have HC := sift_any g cap (swp de a a) 0 0 a W HSW.out (by have := hds.out; omega) (by have := hds.out; omega) (by omega)
      rw [hds.out] at HC
      have HCC := Lib.hid HC
      clear HC
      go_wp2_with fail
      refine HCC.out.mono ?_
      rintro e w4 ⟨rfl, hU4, hK4⟩
      have HU4 := Lib.hid hU4
      have HK4 := Lib.hid (HSK.out.trans hK4)
      clear hU4 hK4 HCC HSK HSW
      go_wp2
      go_roundw
      case rel => exact ⟨_, 0, siftDown ltInt 0 a 0 (swp de a a), rfl, rfl, by omega, by rw [sift_size 0 a 0 0 _ (by omega)]; exact hds.out, HU4.out, HK4.out, HQ.out⟩
      case measure => simp [intOf]
     ·have hds : Hid ((swp de a (a + m)).size = n) := by show _ = _; rw [swp_size]; exact hdk
      have cx := hU.cell a (by omega)
      have fx := hU.froz a (by omega)
      have cy := hU.cell (a + m) (by omega)
      have fy := hU.froz (a + m) (by omega)
      obtain ⟨x, hx⟩ : ∃ x, x = de[a]! := ⟨_, rfl⟩
      obtain ⟨y, hy⟩ : ∃ y, y = de[a + m]! := ⟨_, rfl⟩
      have HSW := Lib.hid (hU.swp (i := a) (j := a + m) (by omega) (by omega) hx hy).drew
      have HSK := Lib.hid (hK.trans (KG.swp (g := g) wr a (a + m) (.int .u64 y) (.int .u64 x))).drew
      have HQ : Hid (heapPop ltInt a m (siftDown ltInt m a 0 (swp de a (a + m))) = heapPop ltInt a hi dk) := heq
      have i1 : (a : Int) < (n : Int) := by omega
      have i2 : (a : Int) + (m : Int) < (n : Int) := by omega
      have hne : ¬ a = a + m := by omega
      rw [<- hy] at cy
      rw [<- hx] at cx
      clear hU hK heq hx hy hdk
      go_wp2_with fail
      go_region
      obtain ⟨W, hW⟩ : ∃ W, W = ((wr.setCell ⟨g, a, none⟩ (.int .u64 y)).setCell ⟨g, (a + m), none⟩ (.int .u64 x)).drew := ⟨_, rfl⟩
      rw [<- hW] at HSW HSK ⊢
      clear hW cx fx cy fy
      have HC := sift_any g cap (swp de a (a + m)) 0 m a W HSW.out (by have := hds.out; omega) (by have := hds.out; omega) (by omega)
      rw [hds.out] at HC
      have HCC := Lib.hid HC
      clear HC
      go_wp2_with fail
      refine HCC.out.mono ?_
      rintro e w4 ⟨rfl, hU4, hK4⟩
      have HU4 := Lib.hid hU4
      have HK4 := Lib.hid (HSK.out.trans hK4)
      clear hU4 hK4 HCC HSK HSW
      go_wp2
      go_roundw
      case rel => exact ⟨_, m, siftDown ltInt m a 0 (swp de a (a + m)), rfl, rfl, by omega, by rw [sift_size m a m 0 _ (by omega)]; exact hds.out, HU4.out, HK4.out, HQ.out⟩
      case measure => first | (simp [intOf]; done) | (simp [intOf]; omega)
    | zero =>
     have hzm : z = -1 := by omega
     subst hzm
     have HD : Hid (de = heapPop ltInt a hi dk) := heq
     clear heq hz
     go_wp2
     first | refine bodyPost_end (v := .tuple #[]) (by simp [results, go_sem]) rfl ?_ | refine bodyPost_end (v := .tuple #[]) (by simp [results, Tryz.results89, go_sem]) rfl ?_
     exact ⟨rfl, by rw [<- HD1.out, <- HD.out]; exact hU, hK⟩
end Go.Proofs.YtbklgjmkdhinpaaGreatDoor.Sr
