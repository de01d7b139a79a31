/- Heap sort, whole. -/
import Derived.Test.YtbklgjmkdhinpaaGreatDoorSrSift
set_option maxHeartbeats 4000000
set_option maxRecDepth 100000
namespace Go.Proofs.YtbklgjmkdhinpaaGreatDoor.Sr
open Go.RowKit Go.Maps Go.Proofs.YtbklgjmkdhinpaaGreatDoor.Bd Go.Proofs.YtbklgjmkdhinpaaGreatDoor.Fm Go.Sort
theorem sift_size (hi first : Nat) : ∀ (m r : Nat) (d : Array Int), hi - r <= m -> (siftDown ltInt hi first r d).size = d.size
 | 0, r, d, h => by rw [sift_end (by omega)]
 | m + 1, r, d, h => by
  by_cases e : hi <= 2 * r + 1
  ·rw [sift_end e]
  ·obtain ⟨c, hc⟩ : ∃ c, c = if (decide (2 * r + 1 + 1 < hi) && ltInt d[first + (2 * r + 1)]! d[first + (2 * r + 1) + 1]!) = true then 2 * r + 2 else 2 * r + 1 := ⟨_, rfl⟩
   have hc2 : c = 2 * r + 2 \/ c = 2 * r + 1 := by rw [hc]; split <;> simp
   rw [sift_at (by omega) hc]
   split
   ·rw [sift_size hi first m _ _ (by omega), swp_size]
   ·rfl
theorem heap_any (g cap : Nat) (d : Array Int) (a b : Nat) (w : World) (h : UR w g d) (hab : a < b) (hb : b <= d.size) (hsz : d.size <= 1000000) :
  Calls Tryz.prog 89 #[.slice (some ⟨g, 0, none⟩) d.size cap, .int .i64 (a : Int), .int .i64 (b : Int)] w fun e w' => e = .returned (.tuple #[]) /\ UR w' g (heapSort ltInt d a b) /\ KG g w w' := by
 have h0 := Lib.hid h
 obtain ⟨n, hn⟩ : ∃ n, n = d.size := ⟨_, rfl⟩
 obtain ⟨hi, hhi⟩ : ∃ hi, hi = b - a := ⟨_, rfl⟩
 obtain ⟨q, hq⟩ : ∃ q, q = (hi - 1) / 2 := ⟨_, rfl⟩
 have HS : Hid (heapSort ltInt d a b = heapPop ltInt a hi (heapBuild ltInt hi a (q + 1) d)) := by subst hq hhi; exact rfl
 rw [HS.out]
 rw [<- hn] at hb hsz ⊢
 have HN := Lib.hid hn
 have w1 : IntKind.i64.wrap ((b : Int) - (a : Int)) = (hi : Int) := by rw [IntKind.wrap_i64]; omega
 have w2 : IntKind.i64.wrap ((hi : Int) - 1) = ((hi - 1 : Nat) : Int) := by rw [IntKind.wrap_i64]; omega
 have w3 : ((hi - 1 : Nat) : Int) / 2 = (q : Int) := by omega
 have bh : 0 < hi /\ a + hi <= n /\ q < hi := by omega
 clear h hn hhi hq HS
 go_enter Tryz.func89, Tryz.ntmps89
 go_wp2_with fail
 go_loopw [9] (fun iV wr => ∃ (z : Int) (k : Nat) (dk : Array Int), iV = .int .i64 z /\ z = (k : Int) - 1 /\ k <= q + 1 /\ dk.size = n /\ UR wr g dk /\ KG g w wr /\ heapBuild ltInt hi a k dk = heapBuild ltInt hi a (q + 1) d) (fun iV _ => (intOf iV + 1).toNat)
 case atStart => exact ⟨_, q + 1, d, rfl, by omega, Nat.le_refl _, HN.out.symm, h0.out, Kept.refl _ _, rfl⟩
 case round =>
  obtain ⟨z, k, dk, rfl, hz, hk, hdk, hU, hK, heq⟩ := hrel
  cases k with
  | succ m =>
   have hzm : z = (m : Int) := by omega
   subst hzm
   clear hz
   have hds := Lib.hid hdk
   have HC := sift_any g cap dk m hi a wr hU (by omega) (by omega) (by omega)
   rw [hdk] at HC
   have HCC := Lib.hid HC
   have HK := Lib.hid hK
   have HQ : Hid (heapBuild ltInt hi a m (siftDown ltInt hi a m dk) = heapBuild ltInt hi a (q + 1) d) := heq
   clear hU hK heq hdk HC
   go_wp2_with fail
   refine HCC.out.mono ?_
   rintro e w4 ⟨rfl, hU4, hK4⟩
   have HU4 := Lib.hid hU4
   have HK4 := Lib.hid (HK.out.trans hK4)
   clear hU4 hK4 HCC HK
   go_wp2
   go_roundw
   case rel => exact ⟨_, m, siftDown ltInt hi a m dk, rfl, rfl, by omega, by rw [sift_size hi a hi m dk (by omega)]; exact hds.out, HU4.out, HK4.out, HQ.out⟩
   case measure => first | (simp [intOf]; done) | (simp [intOf]; omega)
  | zero =>
   have hzm : z = -1 := by omega
   subst hzm
   obtain ⟨d1, hd1⟩ : ∃ d1, d1 = heapBuild ltInt hi a (q + 1) d := ⟨_, rfl⟩
   have e1 : dk = d1 := by rw [hd1, <- heq]; rfl
   subst e1
   have HD1 := Lib.hid hd1
   have HST : Hid (∃ (z : Int) (k : Nat) (de : Array Int), Value.int .i64 ((hi - 1 : Nat) : Int) = .int .i64 z /\ z = (k : Int) - 1 /\ k <= hi /\ de.size = n /\ UR wr g de /\ KG g w wr /\ heapPop ltInt a k de = heapPop ltInt a hi dk) := ⟨_, hi, dk, rfl, by omega, Nat.le_refl _, hdk, hU, hK, rfl⟩
   clear hU hK heq hd1 hz hdk w3
   go_wp2_with fail
   go_loopw [10] (fun iV wq => ∃ (z : Int) (k : Nat) (de : Array Int), iV = .int .i64 z /\ z = (k : Int) - 1 /\ k <= hi /\ de.size = n /\ UR wq g de /\ KG g w wq /\ heapPop ltInt a k de = heapPop ltInt a hi dk) (fun iV _ => (intOf iV + 1).toNat)
   case atStart => exact HST.out
   case round =>
    obtain ⟨z, k, de, rfl, hz, hk, hdk, hU, hK, heq⟩ := hrel
    clear HST
    cases k with
    | succ m =>
     have hzm : z = (m : Int) := by omega
     subst hzm
     clear hz w2
     by_cases hm0 : m = 0
     ·subst hm0
      have hds : Hid ((swp de a a).size = n) := by show _ = _; rw [swp_size]; exact hdk
      have cx := hU.cell a (by omega)
      have fx := hU.froz a (by omega)
      obtain ⟨x, hx⟩ : ∃ x, x = de[a]! := ⟨_, rfl⟩
      have HSW := Lib.hid (hU.swp (i := a) (j := a) (by omega) (by omega) hx hx).drew
      have HSK := Lib.hid (hK.trans (KG.swp (g := g) wr a a (.int .u64 x) (.int .u64 x))).drew
      have HQ : Hid (heapPop ltInt a 0 (siftDown ltInt 0 a 0 (swp de a a)) = heapPop ltInt a hi dk) := heq
      have i1 : (a : Int) < (n : Int) := by omega
      rw [<- hx] at cx
      clear hU hK heq hx hdk
      go_wp2_with fail
      go_region
      obtain ⟨W, hW⟩ : ∃ W, W = ((wr.setCell ⟨g, a, none⟩ (.int .u64 x)).setCell ⟨g, a, none⟩ (.int .u64 x)).drew := ⟨_, rfl⟩
      rw [<- hW] at HSW HSK ⊢
      clear hW cx fx
      have HC := sift_any g cap (swp de a a) 0 0 a W HSW.out (by have := hds.out; omega) (by have := hds.out; omega) (by omega)
      rw [hds.out] at HC
      have HCC := Lib.hid HC
      clear HC
      go_wp2_with fail
      refine HCC.out.mono ?_
      rintro e w4 ⟨rfl, hU4, hK4⟩
      have HU4 := Lib.hid hU4
      have HK4 := Lib.hid (HSK.out.trans hK4)
      clear hU4 hK4 HCC HSK HSW
      go_wp2
      go_roundw
      case rel => exact ⟨_, 0, siftDown ltInt 0 a 0 (swp de a a), rfl, rfl, by omega, by rw [sift_size 0 a 0 0 _ (by omega)]; exact hds.out, HU4.out, HK4.out, HQ.out⟩
      case measure => simp [intOf]
     ·have hds : Hid ((swp de a (a + m)).size = n) := by show _ = _; rw [swp_size]; exact hdk
      have cx := hU.cell a (by omega)
      have fx := hU.froz a (by omega)
      have cy := hU.cell (a + m) (by omega)
      have fy := hU.froz (a + m) (by omega)
      obtain ⟨x, hx⟩ : ∃ x, x = de[a]! := ⟨_, rfl⟩
      obtain ⟨y, hy⟩ : ∃ y, y = de[a + m]! := ⟨_, rfl⟩
      have HSW := Lib.hid (hU.swp (i := a) (j := a + m) (by omega) (by omega) hx hy).drew
      have HSK := Lib.hid (hK.trans (KG.swp (g := g) wr a (a + m) (.int .u64 y) (.int .u64 x))).drew
      have HQ : Hid (heapPop ltInt a m (siftDown ltInt m a 0 (swp de a (a + m))) = heapPop ltInt a hi dk) := heq
      have i1 : (a : Int) < (n : Int) := by omega
      have i2 : (a : Int) + (m : Int) < (n : Int) := by omega
      have hne : ¬ a = a + m := by omega
      rw [<- hy] at cy
      rw [<- hx] at cx
      clear hU hK heq hx hy hdk
      go_wp2_with fail
      go_region
      obtain ⟨W, hW⟩ : ∃ W, W = ((wr.setCell ⟨g, a, none⟩ (.int .u64 y)).setCell ⟨g, (a + m), none⟩ (.int .u64 x)).drew := ⟨_, rfl⟩
      rw [<- hW] at HSW HSK ⊢
      clear hW cx fx cy fy
      have HC := sift_any g cap (swp de a (a + m)) 0 m a W HSW.out (by have := hds.out; omega) (by have := hds.out; omega) (by omega)
      rw [hds.out] at HC
      have HCC := Lib.hid HC
      clear HC
      go_wp2_with fail
      refine HCC.out.mono ?_
      rintro e w4 ⟨rfl, hU4, hK4⟩
      have HU4 := Lib.hid hU4
      have HK4 := Lib.hid (HSK.out.trans hK4)
      clear hU4 hK4 HCC HSK HSW
      go_wp2
      go_roundw
      case rel => exact ⟨_, m, siftDown ltInt m a 0 (swp de a (a + m)), rfl, rfl, by omega, by rw [sift_size m a m 0 _ (by omega)]; exact hds.out, HU4.out, HK4.out, HQ.out⟩
      case measure => first | (simp [intOf]; done) | (simp [intOf]; omega)
    | zero =>
     have hzm : z = -1 := by omega
     subst hzm
     have HD : Hid (de = heapPop ltInt a hi dk) := heq
     clear heq hz
     go_wp2
     first | refine bodyPost_end (v := .tuple #[]) (by simp [results, go_sem]) rfl ?_ | refine bodyPost_end (v := .tuple #[]) (by simp [results, Tryz.results89, go_sem]) rfl ?_
     exact ⟨rfl, by rw [<- HD1.out, <- HD.out]; exact hU, hK⟩
end Go.Proofs.YtbklgjmkdhinpaaGreatDoor.Sr
