/- partialInsertionSortOrdered. -/
import Derived.Test.YtbklgjmkdhinpaaGreatDoorSrPartE
set_option maxHeartbeats 4000000
set_option maxRecDepth 100000
namespace Go.Proofs.YtbklgjmkdhinpaaGreatDoor.Sr
open Go.RowKit Go.Maps Go.Proofs.YtbklgjmkdhinpaaGreatDoor.Bd Go.Proofs.YtbklgjmkdhinpaaGreatDoor.Fm Go.Sort
section
variable {d : Array Int} {a b i j : Nat}
theorem scanSorted_go (h : (decide (i < b) && !ltInt d[i]! d[i - 1]!) = true) : scanSorted ltInt d b i = scanSorted ltInt d b (i + 1) := by
 have e : scanSorted ltInt d b i = if (decide (i < b) && !ltInt d[i]! d[i - 1]!) = true then scanSorted ltInt d b (i + 1) else i := by rw [scanSorted]
 rw [e, if_pos h]
theorem scanSorted_stop (h : (decide (i < b) && !ltInt d[i]! d[i - 1]!) = false) : scanSorted ltInt d b i = i := by
 have e : scanSorted ltInt d b i = if (decide (i < b) && !ltInt d[i]! d[i - 1]!) = true then scanSorted ltInt d b (i + 1) else i := by rw [scanSorted]
 rw [e, if_neg (by rw [h]; decide)]
theorem shiftDown_stop (h : 0 < j -> ltInt d[j]! d[j - 1]! = false) : shiftDown ltInt j d = d := by
 cases j with
 | zero => rfl
 | succ m =>
  show (if (!ltInt d[m + 1]! d[m]!) = true then d else _) = d
  have := h (by omega)
  simp only [Nat.add_sub_cancel] at this
  rw [this]; rfl
theorem shiftDown_go (hj : 0 < j) (h : ltInt d[j]! d[j - 1]! = true) : shiftDown ltInt j d = shiftDown ltInt (j - 1) (swp d j (j - 1)) := by
 obtain ⟨m, rfl⟩ : ∃ m, j = m + 1 := ⟨j - 1, by omega⟩
 simp only [Nat.add_sub_cancel] at h ⊢
 show (if (!ltInt d[m + 1]! d[m]!) = true then d else _) = _
 rw [h]; rfl
theorem shiftUp_end (h : b <= j) : shiftUp ltInt b j d = d := by rw [shiftUp, if_neg (by omega)]
theorem shiftUp_stop (h : ltInt d[j]! d[j - 1]! = false) : shiftUp ltInt b j d = d := by
 rw [shiftUp]
 split
 ·rw [h]; rfl
 ·rfl
theorem shiftUp_go (hj : j < b) (h : ltInt d[j]! d[j - 1]! = true) : shiftUp ltInt b j d = shiftUp ltInt b (j + 1) (swp d j (j - 1)) := by
 rw [shiftUp, if_pos hj, h]; rfl
theorem shiftDown_size : ∀ (j : Nat) (d : Array Int), (shiftDown ltInt j d).size = d.size
 | 0, d => rfl
 | j + 1, d => by
  show (if (!ltInt d[j + 1]! d[j]!) = true then d else shiftDown ltInt j (swp d (j + 1) j)).size = d.size
  split
  ·rfl
  ·rw [shiftDown_size j, swp_size]
theorem shiftUp_size : ∀ (m j : Nat) (d : Array Int), b - j <= m -> (shiftUp ltInt b j d).size = d.size
 | 0, j, d, h => by rw [shiftUp_end (by omega)]
 | m + 1, j, d, h => by
  by_cases hj : j < b
  ·cases e : ltInt d[j]! d[j - 1]! with
   | true => rw [shiftUp_go hj e, shiftUp_size m _ _ (by omega), swp_size]
   | false => rw [shiftUp_stop e]
  ·rw [shiftUp_end (by omega)]
theorem partialIns_end {s i2 : Nat} (hi : scanSorted ltInt d b i = i2) (h : i2 = b) : partialIns ltInt a b (s + 1) i d = (d, true) := by
 show (if scanSorted ltInt d b i = b then (d, true) else _) = _
 rw [hi, if_pos h]
theorem partialIns_few {s i2 : Nat} (hi : scanSorted ltInt d b i = i2) (h : ¬ i2 = b) (h5 : b - a < 50) : partialIns ltInt a b (s + 1) i d = (d, false) := by
 show (if scanSorted ltInt d b i = b then (d, true) else if b - a < 50 then (d, false) else _) = _
 rw [hi, if_neg h, if_pos h5]
theorem partialIns_go {s i2 : Nat} {d1 d2 d3 : Array Int} (hi : scanSorted ltInt d b i = i2) (h : ¬ i2 = b) (h5 : ¬ b - a < 50) (e1 : d1 = swp d i2 (i2 - 1)) (e2 : d2 = if i2 - a ≥ 2 then shiftDown ltInt (i2 - 1) d1 else d1) (e3 : d3 = if b - i2 ≥ 2 then shiftUp ltInt b (i2 + 1) d2 else d2) :
  partialIns ltInt a b (s + 1) i d = partialIns ltInt a b s i2 d3 := by
 subst e1 e2 e3
 subst hi
 show (if scanSorted ltInt d b i = b then (d, true) else if b - a < 50 then (d, false) else _) = _
 rw [if_neg h, if_neg h5]
end
theorem pins_any (g cap : Nat) (d : Array Int) (a b : Nat) (w : World) (h : UR w g d) (hab : a < b) (hb : b <= d.size) (hsz : d.size <= 1000000) :
  Calls Tryz.prog 93 #[.slice (some ⟨g, 0, none⟩) d.size cap, .int .i64 (a : Int), .int .i64 (b : Int)] w fun e w' => e = .returned (.bool (partialInsertionSort ltInt d a b).2) /\ UR w' g (partialInsertionSort ltInt d a b).1 /\ KG g w w' := by
 have h0 := Lib.hid h
 obtain ⟨n, hn⟩ : ∃ n, n = d.size := ⟨_, rfl⟩
 obtain ⟨R0, hR0⟩ : ∃ R0, R0 = partialInsertionSort ltInt d a b := ⟨_, rfl⟩
 have HR0 : Hid (partialIns ltInt a b 5 (a + 1) d = R0) := by rw [hR0]; exact rfl
 rw [<- hR0]
 rw [<- hn] at hb hsz ⊢
 have HN := Lib.hid hn
 have w1 : IntKind.i64.wrap ((a : Int) + 1) = ((a + 1 : Nat) : Int) := by rw [IntKind.wrap_i64]; omega
 clear h hn hR0
 go_enter Tryz.func93, Tryz.ntmps93
 go_wp2_with fail
 go_loopw [7, 8] (fun iV cV wr => ∃ (i c : Nat) (dk : Array Int), iV = .int .i64 (i : Int) /\ cV = .int .i64 (c : Int) /\ c <= 5 /\ a + 1 <= i /\ i <= b /\ dk.size = n /\ UR wr g dk /\ KG g w wr /\ partialIns ltInt a b (5 - c) i dk = R0) (fun _ cV _ => 5 - (intOf cV).toNat)
 case atStart => exact ⟨a + 1, 0, d, by first | rfl | go_num | (congr 1; omega), rfl, by omega, by omega, by omega, HN.out.symm, h0.out, Kept.refl _ _, HR0.out⟩
 case round =>
  obtain ⟨X0, hX⟩ : ∃ X, X = wr := ⟨_, rfl⟩
  subst hX
  obtain ⟨i3, c, dk, rfl, rfl, hc, b1, b2, hdk, hU, hK, heq⟩ := hrel
  have HUA := Lib.hid hU
  have HKA := Lib.hid hK
  have hdsz := Lib.hid hdk
  clear hU hK hdk HR0 w1
  by_cases hc5 : c < 5
  ·obtain ⟨s, hs⟩ : ∃ s, 5 - c = s + 1 := ⟨4 - c, by omega⟩
   rw [hs] at heq
   have HQA := Lib.hid heq
   have HS5 := Lib.hid hs
   have ic5 : (c : Int) < 5 := by omega
   clear heq hs
   go_wp2_with fail
   go_loopw [7] (fun iV wr => ∃ i : Nat, iV = .int .i64 (i : Int) /\ a + 1 <= i /\ i <= b /\ UR wr g dk /\ KG g w wr /\ scanSorted ltInt dk b i = scanSorted ltInt dk b i3) (fun iV _ => b - (intOf iV).toNat)
   case atStart => exact ⟨_, rfl, by omega, by omega, HUA.out, HKA.out, rfl⟩
   case round =>
    obtain ⟨X1, hX⟩ : ∃ X, X = wr := ⟨_, rfl⟩
    subst hX
    obtain ⟨i, rfl, hlo, hhi, hU, hK, heq⟩ := hrel
    have HU1 := Lib.hid hU
    have HK1 := Lib.hid hK
    have HQ1 := Lib.hid heq
    clear hU hK heq HUA HKA
    obtain ⟨im, him⟩ : ∃ im, im = i - 1 := ⟨_, rfl⟩
    have wi : IntKind.i64.wrap ((i : Int) - 1) = (im : Int) := by rw [IntKind.wrap_i64]; omega
    have himl : im + 1 = i := by omega
    have HIM := Lib.hid him
    clear him
    obtain ⟨B, hB⟩ : ∃ B, B = (decide (i < b) && !ltInt (dk : Array Int)[i]! (dk : Array Int)[i - 1]!) := ⟨_, rfl⟩
    have HB := Lib.hid hB
    clear hB
    go_upto_region 5 with fail
    go_cut [32] (fun v wx => v = .bool B /\ UR wx g dk /\ KG g w wx)
    case first =>
     have HUN : Hid (∀ m, UR (X1.drewN m) g dk) := HU1.out.drewN
     have HKN : Hid (∀ m, KG g w (X1.drewN m)) := HK1.out.drewN
     by_cases hij : i < b
     ·have bi : i < (dk : Array Int).size /\ im < (dk : Array Int).size := by rw [hdsz.out]; omega
      have cx := HU1.out.cell i bi.1
      have cy := HU1.out.cell im bi.2
      have i1 : (i : Int) < (n : Int) := by omega
      have i2 : (im : Int) < (n : Int) := by omega
      have i3' : (i : Int) < (b : Int) := by omega
      obtain ⟨x, hx⟩ : ∃ x, x = (dk : Array Int)[i]! := ⟨_, rfl⟩
      obtain ⟨y, hy⟩ : ∃ y, y = (dk : Array Int)[im]! := ⟨_, rfl⟩
      have HBV : Hid (Value.bool (!decide (x < y)) = .bool B) := by
       rw [HB.out, decide_eq_true hij, Bool.true_and, <- HIM.out, hx, hy]; rfl
      rw [<- hx] at cx
      rw [<- hy] at cy
      clear hx hy bi HB HU1 HK1 HQ1
      go_wp2_with fail
      go_quiet (first | (go_at_call 94; refine Calls.quiet_of_same (lessU_q _ _ _)))
      go_wp2_with fail
      go_meet
      case rel => exact ⟨HBV.out, HUN.out _, HKN.out _⟩
     ·have i3' : decide ((i : Int) < (b : Int)) = false := by simp; omega
      have HBV : Hid (Value.bool false = .bool B) := by
       rw [HB.out, decide_eq_false hij, Bool.false_and]; exact rfl
      clear HB HU1 HK1 HQ1
      go_wp2_with fail
      go_quiet (fail)
      go_wp2_with fail
      go_meet
      case rel => exact ⟨HBV.out, HUN.out _, HKN.out _⟩
    case rest =>
     obtain ⟨Y1, hY⟩ : ∃ Y, Y = wc := ⟨_, rfl⟩
     subst hY
     obtain ⟨rfl, hU, hK⟩ := hcut
     have HU2 := Lib.hid hU
     have HK2 := Lib.hid hK
     clear hU hK HU1 HK1
     cases B with
     | true =>
      have hij : i < b := of_decide_eq_true ((Bool.and_eq_true _ _).mp HB.out.symm).1
      have HQ2 := Lib.hid ((scanSorted_go HB.out.symm).symm.trans HQ1.out)
      clear HB HQ1
      go_wp2
      go_roundw
      case rel => first | exact ⟨i + 1, by first | go_num | (congr 1; omega), by omega, by omega, HU2.out, HK2.out, HQ2.out⟩ | ((repeat apply Exists.intro); exact ⟨⟨i + 1, by first | go_num | (congr 1; omega), by omega, by omega, HU2.out, HK2.out, HQ2.out⟩, rfl⟩)
      case measure => first | (simp [intOf]; done) | (simp [intOf]; omega)
     | false =>
      have HS := Lib.hid (HQ1.out.symm.trans (scanSorted_stop HB.out.symm))
      clear HQ1 HB
      by_cases hib : i = b
      ·have HRE : Hid (R0 = (dk, true)) := HQA.out.symm.trans (partialIns_end HS.out hib)
       have ieq : (((i : Int)) == ((b : Int))) = true := by simp; omega
       have HUF := HU2
       clear HQA HS hib
       go_wp2
       go_ret
       rw [HRE.out]
       exact ⟨rfl, HUF.out, HK2.out⟩
      have ieq : (((i : Int)) == ((b : Int))) = false := by rw [beq_eq_false_iff_ne]; omega
      have wba : IntKind.i64.wrap ((b : Int) - (a : Int)) = (b : Int) - (a : Int) := by rw [IntKind.wrap_i64]; omega
      by_cases hba : b - a < 50
      ·have HRE : Hid (R0 = (dk, false)) := HQA.out.symm.trans (partialIns_few HS.out hib hba)
       have i50 : (b : Int) - (a : Int) < 50 := by omega
       clear HQA HS
       go_wp2
       go_ret
       rw [HRE.out]
       exact ⟨rfl, HU2.out, HK2.out⟩
      have i50 : ¬ (b : Int) - (a : Int) < 50 := by omega
      have hilt : i < b := by omega
      have hne7 : ¬ i = im := by omega
      go_upto_region 11 with fail
      go_cut [] (fun wx => UR wx g (swp dk i im) /\ KG g w wx)
      case first =>
       have bi : i < (dk : Array Int).size /\ im < (dk : Array Int).size := (⟨by have := hdsz.out; omega, by have := hdsz.out; omega⟩ : i < (dk : Array Int).size /\ im < (dk : Array Int).size)
       have hU := HU2.out
       have hK := HK2.out
       have cx := hU.cell i bi.1
       have cy := hU.cell im bi.2
       have fx := hU.froz i bi.1
       have fy := hU.froz im bi.2
       obtain ⟨x, hx⟩ : ∃ x, x = (dk : Array Int)[i]! := ⟨_, rfl⟩
       obtain ⟨y, hy⟩ : ∃ y, y = (dk : Array Int)[im]! := ⟨_, rfl⟩
       have HSW := Lib.hid (hU.swp (i := i) (j := im) bi.1 bi.2 hx hy).drew
       have HSK := Lib.hid (hK.trans (KG.swp (g := g) Y1 i im (.int .u64 y) (.int .u64 x))).drew
       have i1 : (i : Int) < (n : Int) := by have := (⟨by have := hdsz.out; omega, by have := hdsz.out; omega⟩ : i < (dk : Array Int).size /\ im < (dk : Array Int).size); have := hdsz.out; omega
       have i2 : (im : Int) < (n : Int) := by have := (⟨by have := hdsz.out; omega, by have := hdsz.out; omega⟩ : i < (dk : Array Int).size /\ im < (dk : Array Int).size); have := hdsz.out; omega
       have hij : ¬ i = im := hne7
       rw [<- hx] at cx
       rw [<- hy] at cy
       clear hU hK hx hy
       go_wp2_with fail
       go_region
       go_wp2_with fail
       go_meet
       case rel => exact ⟨HSW.out, HSK.out⟩
      case rest =>
       obtain ⟨Y21, hY⟩ : ∃ Y, Y = wc := ⟨_, rfl⟩
       subst hY
       obtain ⟨hU, hK⟩ := hcut
       have HU22 := Lib.hid hU
       have HK23 := Lib.hid hK
       clear hU hK HU2 HK2
       obtain ⟨d1, hd1⟩ : ∃ d1, d1 = swp dk i im := ⟨_, rfl⟩
       have hds1 : Hid (d1.size = n) := by show _ = _; rw [hd1, swp_size]; exact hdsz.out
       have HD1 : Hid (d1 = swp dk i (i - 1)) := by rw [<- HIM.out]; exact hd1
       rw [<- hd1] at HU22
       clear hd1 hdsz
       have wia : IntKind.i64.wrap ((i : Int) - (a : Int)) = (i : Int) - (a : Int) := by rw [IntKind.wrap_i64]; omega
       obtain ⟨d2, hd2⟩ : ∃ d2, d2 = if i - a ≥ 2 then shiftDown ltInt (i - 1) d1 else d1 := ⟨_, rfl⟩
       have HD2 := Lib.hid hd2
       have hds2 : Hid (d2.size = n) := by
        show _ = _
        rw [hd2]; split
        ·rw [shiftDown_size]; exact hds1.out
        ·exact hds1.out
       clear hd2
       go_upto_if 61 with fail
       go_cut [] (fun wx => UR wx g d2 /\ KG g w wx)
       case first =>
        have hU := HU22
        have hK := HK23
        clear HU22 HK23 HQA HS
        by_cases hcd : i - a ≥ 2
        ·have icd : (2 : Int) <= (i : Int) - (a : Int) := by omega
         have HDD : Hid (d2 = shiftDown ltInt im d1) := by rw [HD2.out, if_pos hcd]; rw [<- HIM.out]; exact Lib.hid rfl
         go_wp2_with fail
         go_loopw [9] (fun jV wr => ∃ (j : Nat) (dj : Array Int), jV = .int .i64 (j : Int) /\ j <= im /\ dj.size = n /\ UR wr g dj /\ KG g w wr /\ shiftDown ltInt j dj = d2) (fun jV _ => (intOf jV).toNat)
         case atStart => exact ⟨im, d1, by first | rfl | go_num | (congr 1; omega), by omega, hds1.out, hU.out, hK.out, HDD.out.symm⟩
         case round =>
          obtain ⟨Z, hX⟩ : ∃ X, X = wr := ⟨_, rfl⟩
          subst hX
          obtain ⟨j, dj, rfl, hj2, hdj, hU3, hK3, heq⟩ := hrel
          clear hU hK HDD
          by_cases hjc : 0 < j
          ·have ijc : (1 : Int) <= (j : Int) := by omega
           obtain ⟨jm, hjm⟩ : ∃ jm, jm = j - 1 := ⟨_, rfl⟩
           have wj : IntKind.i64.wrap ((j : Int) - 1) = (jm : Int) := by rw [IntKind.wrap_i64]; omega
           have bj : j < dj.size /\ jm < dj.size := by rw [hdj]; omega
           have cx := hU3.cell j bj.1
           have cy := hU3.cell jm bj.2
           have fx := hU3.froz j bj.1
           have fy := hU3.froz jm bj.2
           have hnej : ¬ j = jm := by omega
           have ij1 : (j : Int) < (n : Int) := by omega
           have ij2 : (jm : Int) < (n : Int) := by omega
           obtain ⟨x, hx⟩ : ∃ x, x = dj[j]! := ⟨_, rfl⟩
           obtain ⟨y, hy⟩ : ∃ y, y = dj[jm]! := ⟨_, rfl⟩
           have HJM := Lib.hid hjm
           have HUM : Hid (∀ m, UR (Z.drewN m) g dj) := hU3.drewN
           have HKM : Hid (∀ m, KG g w (Z.drewN m)) := hK3.drewN
           have HSW : Hid (∀ m, UR (((Z.drewN m).setCell ⟨g, j, none⟩ (.int .u64 y)).setCell ⟨g, jm, none⟩ (.int .u64 x)) g (swp dj j jm)) := fun m => (hU3.drewN m).swp bj.1 bj.2 hx hy
           have HSK : Hid (∀ m, KG g w (((Z.drewN m).setCell ⟨g, j, none⟩ (.int .u64 y)).setCell ⟨g, jm, none⟩ (.int .u64 x))) := fun m => (hK3.drewN m).trans (KG.swp _ _ _ _ _)
           have HSZ : Hid ((swp dj j jm).size = n) := by show _ = _; rw [swp_size]; exact hdj
           have HLT : Hid (∀ B : Bool, decide (x < y) = B -> ltInt dj[j]! dj[j - 1]! = B) := fun B hB => by rw [<- hjm, <- hx, <- hy]; exact hB
           have HEQ := Lib.hid heq
           have hjml : jm + 1 = j := by omega
           rw [<- hx] at cx
           rw [<- hy] at cy
           clear hU3 hK3 hx hy heq hdj bj hjm
           by_cases hxy : x < y
           ·have hd : decide (x < y) = true := by simpa using hxy
            have HQ : Hid (shiftDown ltInt jm (swp dj j jm) = d2) := by
             have e := shiftDown_go hjc (HLT.out true hd)
             rw [<- HJM.out] at e
             exact e.symm.trans HEQ.out
            clear HLT HEQ HUM HKM
            go_wp2_with fail
            go_quiet (first | (go_at_call 94; refine Calls.quiet_of_same (lessU_q _ _ _)))
            go_wp2_with fail
            go_region
            go_wp2
            go_roundw
            case rel => exact ⟨jm, swp dj j jm, by first | rfl | go_num | (congr 1; omega), by omega, HSZ.out, HSW.out _, HSK.out _, HQ.out⟩
            case measure => first | (simp [intOf]; done) | (simp [intOf]; omega)
           ·have hd : decide (x < y) = false := by simpa using hxy
            have HQ : Hid (dj = d2) := (shiftDown_stop (fun _ => HLT.out false hd)).symm.trans HEQ.out
            clear HLT HEQ HSW HSK
            go_wp2_with fail
            go_quiet (first | (go_at_call 94; refine Calls.quiet_of_same (lessU_q _ _ _)))
            go_wp2_with fail
            go_meet
            case rel => rw [<- HQ.out]; exact ⟨HUM.out _, HKM.out _⟩
          ·have ijc : ¬ (1 : Int) <= (j : Int) := by omega
           have HQ : Hid (dj = d2) := (shiftDown_stop (fun h => absurd h hjc)).symm.trans heq
           have HU4 := Lib.hid hU3
           have HK4 := Lib.hid hK3
           clear heq hU3 hK3
           go_wp2_with fail
           go_meet
           case rel => rw [<- HQ.out]; exact ⟨HU4.out, HK4.out⟩
        ·have icd : ¬ (2 : Int) <= (i : Int) - (a : Int) := by omega
         have HDD : Hid (d2 = d1) := by rw [HD2.out, if_neg hcd]; exact Lib.hid rfl
         go_wp2_with fail
         go_meet
         case rel => rw [HDD.out]; exact ⟨hU.out, hK.out⟩
       case rest =>
        obtain ⟨Y8, hY⟩ : ∃ Y, Y = wc := ⟨_, rfl⟩
        subst hY
        obtain ⟨hU, hK⟩ := hcut
        have HU22n := Lib.hid hU
        have HK23n := Lib.hid hK
        clear hU hK HU22 HK23
        have wbi : IntKind.i64.wrap ((b : Int) - (i : Int)) = (b : Int) - (i : Int) := by rw [IntKind.wrap_i64]; omega
        obtain ⟨d3, hd3⟩ : ∃ d3, d3 = if b - i ≥ 2 then shiftUp ltInt b (i + 1) d2 else d2 := ⟨_, rfl⟩
        have HD3 := Lib.hid hd3
        have hds3 : Hid (d3.size = n) := by
         show _ = _
         rw [hd3]; split
         ·rw [shiftUp_size (b - (i + 1)) _ _ (Nat.le_refl _)]; exact hds2.out
         ·exact hds2.out
        clear hd3
        have HFQ : Hid (partialIns ltInt a b (5 - (c + 1)) i d3 = R0) := by
         have e := partialIns_go (s := s) HS.out hib hba HD1.out HD2.out HD3.out
         have e5 : 5 - (c + 1) = s := by have := HS5.out; omega
         rw [e5]
         exact e.symm.trans HQA.out
        clear HD1 HD2
        have hU := HU22n
        have hK := HK23n
        clear HU22n HK23n HQA HS
        by_cases hcd : b - i ≥ 2
        ·have icd : (2 : Int) <= (b : Int) - (i : Int) := by omega
         have HDD : Hid (d3 = shiftUp ltInt b (i + 1) d2) := by rw [HD3.out, if_pos hcd]; exact Lib.hid rfl
         go_wp2_with fail
         go_loopw [10] (fun jV wr => ∃ (j : Nat) (dj : Array Int), jV = .int .i64 (j : Int) /\ i + 1 <= j /\ j <= b /\ dj.size = n /\ UR wr g dj /\ KG g w wr /\ shiftUp ltInt b j dj = d3) (fun jV _ => b - (intOf jV).toNat)
         case atStart => exact ⟨(i + 1), d2, by first | rfl | go_num | (congr 1; omega), by omega, by omega, hds2.out, hU.out, hK.out, HDD.out.symm⟩
         case round =>
          obtain ⟨Z, hX⟩ : ∃ X, X = wr := ⟨_, rfl⟩
          subst hX
          obtain ⟨j, dj, rfl, hj1, hj2, hdj, hU3, hK3, heq⟩ := hrel
          clear hU hK HDD
          by_cases hjc : j < b
          ·have ijc : (j : Int) < (b : Int) := by omega
           obtain ⟨jm, hjm⟩ : ∃ jm, jm = j - 1 := ⟨_, rfl⟩
           have wj : IntKind.i64.wrap ((j : Int) - 1) = (jm : Int) := by rw [IntKind.wrap_i64]; omega
           have bj : j < dj.size /\ jm < dj.size := by rw [hdj]; omega
           have cx := hU3.cell j bj.1
           have cy := hU3.cell jm bj.2
           have fx := hU3.froz j bj.1
           have fy := hU3.froz jm bj.2
           have hnej : ¬ j = jm := by omega
           have ij1 : (j : Int) < (n : Int) := by omega
           have ij2 : (jm : Int) < (n : Int) := by omega
           obtain ⟨x, hx⟩ : ∃ x, x = dj[j]! := ⟨_, rfl⟩
           obtain ⟨y, hy⟩ : ∃ y, y = dj[jm]! := ⟨_, rfl⟩
           have HJM := Lib.hid hjm
           have HUM : Hid (∀ m, UR (Z.drewN m) g dj) := hU3.drewN
           have HKM : Hid (∀ m, KG g w (Z.drewN m)) := hK3.drewN
           have HSW : Hid (∀ m, UR (((Z.drewN m).setCell ⟨g, j, none⟩ (.int .u64 y)).setCell ⟨g, jm, none⟩ (.int .u64 x)) g (swp dj j jm)) := fun m => (hU3.drewN m).swp bj.1 bj.2 hx hy
           have HSK : Hid (∀ m, KG g w (((Z.drewN m).setCell ⟨g, j, none⟩ (.int .u64 y)).setCell ⟨g, jm, none⟩ (.int .u64 x))) := fun m => (hK3.drewN m).trans (KG.swp _ _ _ _ _)
           have HSZ : Hid ((swp dj j jm).size = n) := by show _ = _; rw [swp_size]; exact hdj
           have HLT : Hid (∀ B : Bool, decide (x < y) = B -> ltInt dj[j]! dj[j - 1]! = B) := fun B hB => by rw [<- hjm, <- hx, <- hy]; exact hB
           have HEQ := Lib.hid heq
           have hjml : jm + 1 = j := by omega
           rw [<- hx] at cx
           rw [<- hy] at cy
           clear hU3 hK3 hx hy heq hdj bj hjm
           by_cases hxy : x < y
           ·have hd : decide (x < y) = true := by simpa using hxy
            have HQ : Hid (shiftUp ltInt b (j + 1) (swp dj j jm) = d3) := by
             have e := shiftUp_go hjc (HLT.out true hd)
             rw [<- HJM.out] at e
             exact e.symm.trans HEQ.out
            clear HLT HEQ HUM HKM
            go_wp2_with fail
            go_quiet (first | (go_at_call 94; refine Calls.quiet_of_same (lessU_q _ _ _)))
            go_wp2_with fail
            go_region
            go_wp2
            go_roundw
            case rel => exact ⟨j + 1, swp dj j jm, by first | rfl | go_num | (congr 1; omega), by omega, by omega, HSZ.out, HSW.out _, HSK.out _, HQ.out⟩
            case measure => first | (simp [intOf]; done) | (simp [intOf]; omega)
           ·have hd : decide (x < y) = false := by simpa using hxy
            have HQ : Hid (dj = d3) := (shiftUp_stop (HLT.out false hd)).symm.trans HEQ.out
            clear HLT HEQ HSW HSK
            go_wp2_with fail
            go_quiet (first | (go_at_call 94; refine Calls.quiet_of_same (lessU_q _ _ _)))
            go_wp2
            go_roundw
            case rel => first | exact ⟨i, c + 1, d3, rfl, by first | go_num | (congr 1; omega), by omega, by omega, by omega, hds3.out, by rw [<- HQ.out]; exact HUM.out _, HKM.out _, HFQ.out⟩ | ((repeat apply Exists.intro); exact ⟨⟨i, c + 1, d3, rfl, by first | go_num | (congr 1; omega), by omega, by omega, by omega, hds3.out, by rw [<- HQ.out]; exact HUM.out _, HKM.out _, HFQ.out⟩, rfl⟩)
            case measure => first | (simp [intOf]; done) | (simp [intOf]; omega)
          ·have ijc : ¬ (j : Int) < (b : Int) := by omega
           have HQ : Hid (dj = d3) := (shiftUp_end (by omega)).symm.trans heq
           have HU4 := Lib.hid hU3
           have HK4 := Lib.hid hK3
           clear heq hU3 hK3
           go_wp2
           go_roundw
           case rel => first | exact ⟨i, c + 1, d3, rfl, by first | go_num | (congr 1; omega), by omega, by omega, by omega, hds3.out, by rw [<- HQ.out]; exact HU4.out, HK4.out, HFQ.out⟩ | ((repeat apply Exists.intro); exact ⟨⟨i, c + 1, d3, rfl, by first | go_num | (congr 1; omega), by omega, by omega, by omega, hds3.out, by rw [<- HQ.out]; exact HU4.out, HK4.out, HFQ.out⟩, rfl⟩)
           case measure => first | (simp [intOf]; done) | (simp [intOf]; omega)
        ·have icd : ¬ (2 : Int) <= (b : Int) - (i : Int) := by omega
         have HDD : Hid (d3 = d2) := by rw [HD3.out, if_neg hcd]; exact Lib.hid rfl
         go_wp2
         go_roundw
         case rel => first | exact ⟨i, c + 1, d3, rfl, by first | go_num | (congr 1; omega), by omega, by omega, by omega, hds3.out, by rw [HDD.out]; exact hU.out, hK.out, HFQ.out⟩ | ((repeat apply Exists.intro); exact ⟨⟨i, c + 1, d3, rfl, by first | go_num | (congr 1; omega), by omega, by omega, by omega, hds3.out, by rw [HDD.out]; exact hU.out, hK.out, HFQ.out⟩, rfl⟩)
         case measure => first | (simp [intOf]; done) | (simp [intOf]; omega)
  ·obtain rfl : c = 5 := by omega
   have HRE : Hid (R0 = (dk, false)) := heq.symm
   clear heq
   go_wp2
   go_ret
   rw [HRE.out]
   exact ⟨rfl, HUA.out, HKA.out⟩
end Go.Proofs.YtbklgjmkdhinpaaGreatDoor.Sr
