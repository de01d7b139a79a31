/- Insertion sort. -/
import Derived.Test.YtbklgjmkdhinpaaGreatDoorSrBase
set_option maxHeartbeats 4000000
set_option maxRecDepth 100000
namespace Go.Proofs.YtbklgjmkdhinpaaGreatDoor.Sr
open Go.RowKit Go.Maps Go.Proofs.YtbklgjmkdhinpaaGreatDoor.Bd Go.Proofs.YtbklgjmkdhinpaaGreatDoor.Fm Go.Sort
theorem insInner_go {a j : Nat} {d : Array Int} (hj : a < j) (hl : ltInt d[j]! d[j - 1]! = true) : insInner ltInt a j d = insInner ltInt a (j - 1) (swp d j (j - 1)) := by
 obtain ⟨k, rfl⟩ : ∃ k, j = k + 1 := ⟨j - 1, by omega⟩
 have hl' : ltInt d[k + 1]! d[k]! = true := hl
 show (if (decide (k + 1 > a) && ltInt d[k + 1]! d[k]!) = true then _ else _) = _
 rw [if_pos (by simp [hl']; omega)]; rfl
theorem insInner_stop {a j : Nat} {d : Array Int} (h : a < j -> ltInt d[j]! d[j - 1]! = false) : insInner ltInt a j d = d := by
 cases j with
 | zero => rfl
 | succ k =>
  show (if (decide (k + 1 > a) && ltInt d[k + 1]! d[k]!) = true then _ else _) = _
  by_cases e : a < k + 1
  ·rw [if_neg (by have := h e; simp at this; simp [this])]
  ·rw [if_neg (by simp; omega)]
theorem ins_any (g cap : Nat) (d : Array Int) (a b : Nat) (w : World) (h : UR w g d) (hab : a <= b) (hb : b <= d.size) (hsz : d.size <= 1000000) :
  Calls Tryz.prog 88 #[.slice (some ⟨g, 0, none⟩) d.size cap, .int .i64 (a : Int), .int .i64 (b : Int)] w fun e w' => e = .returned (.tuple #[]) /\ UR w' g (insertionSort ltInt d a b) /\ KG g w w' := by
 have h0 := Lib.hid h
 obtain ⟨n, hn⟩ : ∃ n, n = d.size := ⟨_, rfl⟩
 rw [<- hn] at hb hsz ⊢
 have HN := Lib.hid hn
 have hw1 : IntKind.i64.wrap ((a : Int) + 1) = ((a + 1 : Nat) : Int) := by rw [IntKind.wrap_i64]; omega
 clear h hn
 go_enter Tryz.func88, Tryz.ntmps88
 go_wp2_with fail
 go_loopw [6] (fun iV wr => ∃ (i : Nat) (dk : Array Int), iV = .int .i64 (i : Int) /\ a < i /\ i <= b + 1 /\ dk.size = n /\ UR wr g dk /\ KG g w wr /\ insOuter ltInt a b i dk = insOuter ltInt a b (a + 1) d) (fun iV _ => b + 1 - (intOf iV).toNat)
 case atStart => exact ⟨a + 1, d, rfl, by omega, by omega, HN.out.symm, h0.out, Kept.refl _ _, rfl⟩
 case round =>
  obtain ⟨i, dk, rfl, hai, hi, hdk, hU, hK, heq⟩ := hrel
  clear hw1
  by_cases hlt : i < b
  ·have i1 : (i : Int) < (b : Int) := by omega
   have HO : Hid (insOuter ltInt a b (i + 1) (insInner ltInt a i dk) = insOuter ltInt a b (a + 1) d) := by
    have e : insOuter ltInt a b i dk = insOuter ltInt a b (i + 1) (insInner ltInt a i dk) := by rw [insOuter, if_pos hlt]
    rw [<- e]; exact heq
   have HST : Hid (∃ (j : Nat) (dj : Array Int), Value.int .i64 (i : Int) = .int .i64 (j : Int) /\ j <= i /\ dj.size = n /\ UR wr g dj /\ KG g w wr /\ insInner ltInt a j dj = insInner ltInt a i dk) := ⟨i, dk, rfl, Nat.le_refl _, hdk, hU, hK, rfl⟩
   clear heq hU hK hdk
   go_wp2_with fail
   go_loopw [7] (fun jV wq => ∃ (j : Nat) (dj : Array Int), jV = .int .i64 (j : Int) /\ j <= i /\ dj.size = n /\ UR wq g dj /\ KG g w wq /\ insInner ltInt a j dj = insInner ltInt a i dk) (fun jV _ => (intOf jV).toNat)
   case atStart => exact HST.out
   case round =>
    obtain ⟨j, dj, rfl, hji, hdj, hU, hK, heq⟩ := hrel
    clear HST
    have hwi : IntKind.i64.wrap ((i : Int) + 1) = ((i + 1 : Nat) : Int) := by rw [IntKind.wrap_i64]; omega
    by_cases haj : a < j
    ·have k1 : (a : Int) < (j : Int) := by omega
     have cx := hU.cell j (by omega)
     have cy := hU.cell (j - 1) (by omega)
     have fx := hU.froz j (by omega)
     have fy := hU.froz (j - 1) (by omega)
     have HU : Hid (∀ m x y, x = dj[j]! -> y = dj[j - 1]! -> UR (((wr.drewN m).setCell ⟨g, j, none⟩ (.int .u64 y)).setCell ⟨g, j - 1, none⟩ (.int .u64 x)) g (swp dj j (j - 1))) := fun m x y hx hy => (hU.drewN m).swp (by omega) (by omega) hx hy
     have HK : Hid (∀ m u v, KG g w (((wr.drewN m).setCell ⟨g, j, none⟩ u).setCell ⟨g, j - 1, none⟩ v)) := fun m u v => (hK.drewN m).trans (KG.swp _ _ _ _ _)
     obtain ⟨x, hx⟩ : ∃ x, x = dj[j]! := ⟨_, rfl⟩
     obtain ⟨y, hy⟩ : ∃ y, y = dj[j - 1]! := ⟨_, rfl⟩
     have HU2 : Hid (∀ m, UR (((wr.drewN m).setCell ⟨g, j, none⟩ (.int .u64 y)).setCell ⟨g, j - 1, none⟩ (.int .u64 x)) g (swp dj j (j - 1))) := fun m => HU.out m x y hx hy
     have w3 : IntKind.i64.wrap ((j : Int) - 1) = ((j - 1 : Nat) : Int) := by rw [IntKind.wrap_i64]; omega
     have hne : ¬ j = j - 1 := by omega
     have i2 : (j : Int) < (n : Int) := by omega
     have i3 : ((j - 1 : Nat) : Int) < (n : Int) := by omega
     have hjm : j - 1 < j := by omega
     have hds : Hid ((swp dj j (j - 1)).size = n) := by show _ = _; rw [swp_size, hdj]
     have HUD : Hid (∀ m, UR (wr.drewN m) g dj) := hU.drewN
     have HKD : Hid (∀ m, KG g w (wr.drewN m)) := hK.drewN
     have hds2 := Lib.hid hdj
     have HLT : Hid (∀ B : Bool, decide (x < y) = B -> ltInt dj[j]! dj[j - 1]! = B) := fun B hB => by rw [<- hx, <- hy]; exact hB
     have HEQ := Lib.hid heq
     rw [<- hx] at cx
     rw [<- hy] at cy
     obtain ⟨jm, hjm2⟩ : ∃ jm, jm = j - 1 := ⟨_, rfl⟩
     have HJM := Lib.hid hjm2
     rw [<- hjm2] at cy fy w3 hne i3 hjm hds HU2 HK
     clear hU hK HU heq hx hy hdj hjm2
     by_cases hxy : x < y
     ·have hl := HLT.out true (by simpa using hxy)
      have HQ := Lib.hid ((insInner_go haj hl).symm.trans HEQ.out)
      have hd : decide (x < y) = true := by simpa using hxy
      clear HLT HEQ hl HUD HKD
      go_wp2_with fail
      go_quiet (first | (go_at_call 94; refine Calls.quiet_of_same (lessU_q _ _ _)))
      go_wp2_with fail
      go_region
      go_wp2
      go_roundw
      case rel => exact ⟨jm, swp dj j jm, rfl, by omega, hds.out, HU2.out _, HK.out _ _ _, by rw [HJM.out]; exact HQ.out⟩
      case measure => simp [intOf]; omega
     ·have hl := HLT.out false (by simpa using hxy)
      have HQ := Lib.hid ((insInner_stop (a := a) (fun _ => hl)).symm.trans HEQ.out)
      have hd : decide (x < y) = false := by simpa using hxy
      clear HLT HEQ hl HU2 HK
      go_wp2_with fail
      go_quiet (first | (go_at_call 94; refine Calls.quiet_of_same (lessU_q _ _ _)))
      go_wp2
      go_roundw
      case rel => exact ⟨i + 1, dj, by go_num, by omega, by omega, hds2.out, HUD.out _, HKD.out _, by rw [HQ.out]; exact HO.out⟩
      case measure => simp [intOf]; omega
    ·have k1 : decide ((a : Int) < (j : Int)) = false := by simp; omega
     have HQ := Lib.hid ((insInner_stop (a := a) (j := j) (d := dj) (fun h => absurd h haj)).symm.trans heq)
     have HUD : Hid (∀ m, UR (wr.drewN m) g dj) := hU.drewN
     have HKD : Hid (∀ m, KG g w (wr.drewN m)) := hK.drewN
     have hds2 := Lib.hid hdj
     clear hU hK heq hdj
     go_wp2_with fail
     go_quiet (fail)
     go_wp2
     go_roundw
     case rel => exact ⟨i + 1, dj, by go_num, by omega, by omega, hds2.out, HUD.out _, HKD.out _, by rw [HQ.out]; exact HO.out⟩
     case measure => simp [intOf]; omega
  ·have HD := Lib.hid heq
   clear heq
   have i1 : ¬ (i : Int) < (b : Int) := by omega
   go_wp2
   refine bodyPost_end (v := .tuple #[]) (by simp [results, Tryz.results88, go_sem]) rfl ⟨rfl, ?_, hK⟩
   have := HD.out
   rw [insOuter, if_neg hlt] at this
   rw [insertionSort, <- this]; exact hU
end Go.Proofs.YtbklgjmkdhinpaaGreatDoor.Sr
