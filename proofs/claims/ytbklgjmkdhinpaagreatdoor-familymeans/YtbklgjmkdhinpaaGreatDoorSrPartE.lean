/- partitionEqualOrdered. -/
import Derived.Test.YtbklgjmkdhinpaaGreatDoorSrPart
set_option maxHeartbeats 4000000
set_option maxRecDepth 100000
namespace Go.Proofs.YtbklgjmkdhinpaaGreatDoor.Sr
open Go.RowKit Go.Maps Go.Proofs.YtbklgjmkdhinpaaGreatDoor.Bd Go.Proofs.YtbklgjmkdhinpaaGreatDoor.Fm Go.Sort
section
variable {d dk : Array Int} {a b pivot i j i2 j2 : Nat}
theorem scan_ne2 {J : Nat} {p q : Bool} (h1 : false = (decide (i <= J) && !p)) (h2 : false = (decide (i <= j) && q)) (hpq : i = j -> p = q) (hij : i <= j) (hjJ : j <= J) : ¬ i = j := fun e => by
 rw [decide_eq_true (by omega : i <= J), Bool.true_and] at h1
 rw [decide_eq_true hij, Bool.true_and] at h2
 rw [hpq e, <- h2] at h1
 cases h1
theorem partEqLoop_stop (hi : scanUp (fun x => !ltInt dk[a]! x) dk j i = i2) (hj : scanDown (fun x => ltInt dk[a]! x) dk i2 j = j2) (h : j2 < i2) : partEqLoop ltInt a i j dk = (i2, dk) := by
 rw [partEqLoop]
 rw [hi, hj, if_pos h]
theorem partEqLoop_go (hi : scanUp (fun x => !ltInt dk[a]! x) dk j i = i2) (hj : scanDown (fun x => ltInt dk[a]! x) dk i2 j = j2) (h : i2 <= j2) (h1 : i <= i2) (h2 : j2 <= j) (h3 : 0 < j2) : partEqLoop ltInt a i j dk = partEqLoop ltInt a (i2 + 1) (j2 - 1) (swp dk i2 j2) := by
 rw [partEqLoop]
 rw [hi, hj, if_neg (by omega), dif_pos (by omega)]
end
theorem parte_any (g cap : Nat) (d : Array Int) (a b pivot : Nat) (w : World) (h : UR w g d) (hap : a <= pivot) (hpb : pivot < b) (hb : b <= d.size) (hsz : d.size <= 1000000) :
  Calls Tryz.prog 95 #[.slice (some ⟨g, 0, none⟩) d.size cap, .int .i64 (a : Int), .int .i64 (b : Int), .int .i64 (pivot : Int)] w fun e w' => e = .returned (.int .i64 ((partitionEqual ltInt d a b pivot).1 : Int)) /\ UR w' g (partitionEqual ltInt d a b pivot).2 /\ KG g w w' := by
 have h0 := Lib.hid h
 obtain ⟨n, hn⟩ : ∃ n, n = d.size := ⟨_, rfl⟩
 have HK0 : Hid (KG g w w) := Kept.refl _ _
 rw [<- hn] at hb hsz ⊢
 have hdsz := Lib.hid hn
 obtain ⟨J0, hJ0⟩ : ∃ J0, J0 = b - 1 := ⟨_, rfl⟩
 have hJl : J0 + 1 = b /\ a < b := by omega
 have HPE : Hid (partitionEqual ltInt d a b pivot = partEqLoop ltInt a (a + 1) J0 (swp d a pivot)) := by rw [hJ0]; exact rfl
 obtain ⟨R0, hR0⟩ : ∃ R0, R0 = partEqLoop ltInt a (a + 1) J0 (swp d a pivot) := ⟨_, rfl⟩
 rw [HPE.out, <- hR0]
 have HR0 := Lib.hid hR0
 clear h hn hJ0 hR0 HPE
 go_enter Tryz.func95, Tryz.ntmps95
 go_upto_region 1 with fail
 go_cut [] (fun wx => UR wx g (swp d a pivot) /\ KG g w wx)
 case first =>
  have bi : a < (d : Array Int).size /\ pivot < (d : Array Int).size := (⟨by have := hdsz.out; omega, by have := hdsz.out; omega⟩ : a < (d : Array Int).size /\ pivot < (d : Array Int).size)
  have hU := h0.out
  have hK := HK0.out
  have cx := hU.cell a bi.1
  have cy := hU.cell pivot bi.2
  have fx := hU.froz a bi.1
  have fy := hU.froz pivot bi.2
  obtain ⟨x, hx⟩ : ∃ x, x = (d : Array Int)[a]! := ⟨_, rfl⟩
  obtain ⟨y, hy⟩ : ∃ y, y = (d : Array Int)[pivot]! := ⟨_, rfl⟩
  have HSW := Lib.hid (hU.swp (i := a) (j := pivot) bi.1 bi.2 hx hy).drew
  have HSK := Lib.hid (hK.trans (KG.swp (g := g) w a pivot (.int .u64 y) (.int .u64 x))).drew
  have i1 : (a : Int) < (n : Int) := by have := (⟨by have := hdsz.out; omega, by have := hdsz.out; omega⟩ : a < (d : Array Int).size /\ pivot < (d : Array Int).size); have := hdsz.out; omega
  have i2 : (pivot : Int) < (n : Int) := by have := (⟨by have := hdsz.out; omega, by have := hdsz.out; omega⟩ : a < (d : Array Int).size /\ pivot < (d : Array Int).size); have := hdsz.out; omega
  by_cases hij : a = pivot
  ·have hxy : x = y := by rw [hx, hy, hij]
   have HSW2 : Hid (UR ((w.setCell ⟨g, pivot, none⟩ (.int .u64 y)).setCell ⟨g, pivot, none⟩ (.int .u64 y)).drew g (swp d a pivot) /\ KG g w ((w.setCell ⟨g, pivot, none⟩ (.int .u64 y)).setCell ⟨g, pivot, none⟩ (.int .u64 y)).drew) := by
    have h1 := HSW.out
    have h2 := HSK.out
    rw [hxy, hij] at h1 h2
    rw [hij]
    exact ⟨h1, h2⟩
   rw [<- hy] at cy
   clear hU hK hx hy cx fx hxy HSW HSK
   go_wp2_with fail
   go_region
   go_wp2_with fail
   go_meet
   case rel => exact HSW2.out
  ·rw [<- hx] at cx
   rw [<- hy] at cy
   clear hU hK hx hy
   go_wp2_with fail
   go_region
   go_wp2_with fail
   go_meet
   case rel => exact ⟨HSW.out, HSK.out⟩
 case rest =>
  obtain ⟨Y1, hY⟩ : ∃ Y, Y = wc := ⟨_, rfl⟩
  subst hY
  obtain ⟨hU, hK⟩ := hcut
  have HU2 := Lib.hid hU
  have HK3 := Lib.hid hK
  clear hU hK h0 HK0
  obtain ⟨d1, hd1⟩ : ∃ d1, d1 = swp d a pivot := ⟨_, rfl⟩
  have hds2 : Hid (d1.size = n) := by show _ = _; rw [hd1, swp_size]; exact hdsz.out.symm
  rw [<- hd1] at HU2 HR0
  clear hd1 hdsz
  go_upto_region 2 with fail
  go_cut [9, 10] (fun v9 v10 wx => v9 = .int .i64 ((a + 1 : Nat) : Int) /\ v10 = .int .i64 ((J0 : Nat) : Int) /\ UR wx g d1 /\ KG g w wx)
  case first =>
   have hU := HU2
   have hK := HK3
   clear HU2 HK3
   go_wp2_with fail
   go_meet
   case rel => exact ⟨(by first | rfl | (congr 1; omega) | (simp; omega)), (by first | rfl | (congr 1; omega) | (simp; omega)), hU.out, hK.out⟩
  case rest =>
   obtain ⟨Y4, hY⟩ : ∃ Y, Y = wc := ⟨_, rfl⟩
   subst hY
   obtain ⟨rfl, rfl, hU, hK⟩ := hcut
   have HU5 := Lib.hid hU
   have HK6 := Lib.hid hK
   clear hU hK HU2 HK3
   go_wp2_with fail
   go_loopw [9, 10] (fun iV jV wr => ∃ (i3 j3 : Nat) (dk : Array Int), iV = .int .i64 (i3 : Int) /\ jV = .int .i64 (j3 : Int) /\ a + 1 <= i3 /\ i3 <= b /\ a <= j3 /\ j3 <= J0 /\ dk.size = n /\ UR wr g dk /\ KG g w wr /\ partEqLoop ltInt a i3 j3 dk = R0) (fun iV jV _ => (intOf jV).toNat + 1 - (intOf iV).toNat)
   case atStart => exact ⟨a + 1, J0, _, by first | rfl | go_num | (congr 1; omega), by first | rfl | go_num | (congr 1; omega), by omega, by omega, by omega, by omega, hds2.out, HU5.out, HK6.out, HR0.out.symm⟩
   case round =>
    obtain ⟨X0, hX⟩ : ∃ X, X = wr := ⟨_, rfl⟩
    subst hX
    obtain ⟨i3, j3, dk, rfl, rfl, b1, b2, b3, b4, hdk, hU, hK, heq⟩ := hrel
    have HUA := Lib.hid hU
    have HKA := Lib.hid hK
    have HQA := Lib.hid heq
    have hdsz := Lib.hid hdk
    clear hU hK heq hdk HU5 HK6 HR0 hds2
    go_wp2_with fail
    go_loopw [9] (fun iV wr => ∃ i4 : Nat, iV = .int .i64 (i4 : Int) /\ i3 <= i4 /\ i4 <= b /\ UR wr g dk /\ KG g w wr /\ scanUp (fun x => !ltInt dk[a]! x) dk j3 i4 = scanUp (fun x => !ltInt dk[a]! x) dk j3 i3) (fun iV _ => j3 + 1 - (intOf iV).toNat)
    case atStart => exact ⟨_, rfl, by omega, by omega, HUA.out, HKA.out, rfl⟩
    case round =>
     obtain ⟨X7, hX⟩ : ∃ X, X = wr := ⟨_, rfl⟩
     subst hX
     obtain ⟨i4, rfl, hlo, hhi, hU, hK, heq⟩ := hrel
     have HU8 := Lib.hid hU
     have HK9 := Lib.hid hK
     have HQ10 := Lib.hid heq
     clear hU hK heq HUA HKA
     obtain ⟨B12, hB⟩ : ∃ B, B = (decide (i4 <= j3) && (fun x => !ltInt dk[a]! x) (dk : Array Int)[i4]!) := ⟨_, rfl⟩
     have HB := Lib.hid hB
     clear hB
     go_upto_region 3 with fail
     go_cut [43] (fun v wx => v = .bool B12 /\ UR wx g dk /\ KG g w wx)
     case first =>
      have HUN : Hid (∀ m, UR (X7.drewN m) g dk) := HU8.out.drewN
      have HKN : Hid (∀ m, KG g w (X7.drewN m)) := HK9.out.drewN
      by_cases hij : i4 <= j3
      ·have bi : i4 < (dk : Array Int).size /\ a < (dk : Array Int).size := by rw [hdsz.out]; omega
       have cx := HU8.out.cell i4 bi.1
       have cy := HU8.out.cell a bi.2
       have i1 : (i4 : Int) < (n : Int) := by have := hdsz.out; omega
       have i2 : (a : Int) < (n : Int) := by have := hdsz.out; omega
       have i3 : (i4 : Int) <= (j3 : Int) := by omega
       obtain ⟨x, hx⟩ : ∃ x, x = (dk : Array Int)[i4]! := ⟨_, rfl⟩
       obtain ⟨y, hy⟩ : ∃ y, y = (dk : Array Int)[a]! := ⟨_, rfl⟩
       have HBV : Hid (Value.bool (!decide (y < x)) = .bool B12) := by
        rw [HB.out, decide_eq_true hij, Bool.true_and, hx, hy]; rfl
       rw [<- hx] at cx
       rw [<- hy] at cy
       clear hx hy bi HB HU8 HK9 HQ10
       go_wp2_with fail
       go_quiet (first | (go_at_call 94; refine Calls.quiet_of_same (lessU_q _ _ _)))
       go_wp2_with fail
       go_meet
       case rel => exact ⟨HBV.out, HUN.out _, HKN.out _⟩
      ·have i3 : decide ((i4 : Int) <= (j3 : Int)) = false := by simp; omega
       have HBV : Hid (Value.bool false = .bool B12) := by
        rw [HB.out, decide_eq_false hij, Bool.false_and]; exact rfl
       clear HB HU8 HK9 HQ10
       go_wp2_with fail
       go_quiet (fail)
       go_wp2_with fail
       go_meet
       case rel => exact ⟨HBV.out, HUN.out _, HKN.out _⟩
     case rest =>
      obtain ⟨Y13, hY⟩ : ∃ Y, Y = wc := ⟨_, rfl⟩
      subst hY
      obtain ⟨rfl, hU, hK⟩ := hcut
      have HU14 := Lib.hid hU
      have HK15 := Lib.hid hK
      clear hU hK HU8 HK9
      cases B12 with
      | true =>
       have hij : i4 <= j3 := of_decide_eq_true ((Bool.and_eq_true _ _).mp HB.out.symm).1
       have HQ2 := Lib.hid ((scanUp_go HB.out.symm).symm.trans HQ10.out)
       clear HB HQ10
       go_wp2
       go_roundw
       case rel => first | exact ⟨i4 + 1, by first | go_num | (congr 1; omega), by omega, by omega, HU14.out, HK15.out, HQ2.out⟩ | ((repeat apply Exists.intro); exact ⟨⟨i4 + 1, by first | go_num | (congr 1; omega), by omega, by omega, HU14.out, HK15.out, HQ2.out⟩, rfl⟩)
       case measure => first | (simp [intOf]; done) | (simp [intOf]; omega)
      | false =>
       have HS11 := Lib.hid (HQ10.out.symm.trans (scanUp_stop HB.out.symm))
       have HS11c := HB
       clear HQ10 HB
       go_wp2_with fail
       go_loopw [10] (fun iV wr => ∃ j4 : Nat, iV = .int .i64 (j4 : Int) /\ a <= j4 /\ j4 <= j3 /\ UR wr g dk /\ KG g w wr /\ scanDown (fun x => ltInt dk[a]! x) dk i4 j4 = scanDown (fun x => ltInt dk[a]! x) dk i4 j3) (fun iV _ => (intOf iV).toNat)
       case atStart => exact ⟨_, rfl, by omega, by omega, HU14.out, HK15.out, rfl⟩
       case round =>
        obtain ⟨X16, hX⟩ : ∃ X, X = wr := ⟨_, rfl⟩
        subst hX
        obtain ⟨j4, rfl, hlo, hhi, hU, hK, heq⟩ := hrel
        have HU17 := Lib.hid hU
        have HK18 := Lib.hid hK
        have HQ19 := Lib.hid heq
        clear hU hK heq HU14 HK15
        obtain ⟨B21, hB⟩ : ∃ B, B = (decide (i4 <= j4) && (fun x => ltInt dk[a]! x) (dk : Array Int)[j4]!) := ⟨_, rfl⟩
        have HB := Lib.hid hB
        clear hB
        go_upto_region 5 with fail
        go_cut [59] (fun v wx => v = .bool B21 /\ UR wx g dk /\ KG g w wx)
        case first =>
         have HUN : Hid (∀ m, UR (X16.drewN m) g dk) := HU17.out.drewN
         have HKN : Hid (∀ m, KG g w (X16.drewN m)) := HK18.out.drewN
         by_cases hij : i4 <= j4
         ·have bi : j4 < (dk : Array Int).size /\ a < (dk : Array Int).size := by rw [hdsz.out]; omega
          have cx := HU17.out.cell j4 bi.1
          have cy := HU17.out.cell a bi.2
          have i1 : (j4 : Int) < (n : Int) := by have := hdsz.out; omega
          have i2 : (a : Int) < (n : Int) := by have := hdsz.out; omega
          have i3 : (i4 : Int) <= (j4 : Int) := by omega
          obtain ⟨x, hx⟩ : ∃ x, x = (dk : Array Int)[j4]! := ⟨_, rfl⟩
          obtain ⟨y, hy⟩ : ∃ y, y = (dk : Array Int)[a]! := ⟨_, rfl⟩
          have HBV : Hid (Value.bool (decide (y < x)) = .bool B21) := by
           rw [HB.out, decide_eq_true hij, Bool.true_and, hx, hy]; rfl
          rw [<- hx] at cx
          rw [<- hy] at cy
          clear hx hy bi HB HU17 HK18 HQ19
          go_wp2_with fail
          go_quiet (first | (go_at_call 94; refine Calls.quiet_of_same (lessU_q _ _ _)))
          go_wp2_with fail
          go_meet
          case rel => exact ⟨HBV.out, HUN.out _, HKN.out _⟩
         ·have i3 : decide ((i4 : Int) <= (j4 : Int)) = false := by simp; omega
          have HBV : Hid (Value.bool false = .bool B21) := by
           rw [HB.out, decide_eq_false hij, Bool.false_and]; exact rfl
          clear HB HU17 HK18 HQ19
          go_wp2_with fail
          go_quiet (fail)
          go_wp2_with fail
          go_meet
          case rel => exact ⟨HBV.out, HUN.out _, HKN.out _⟩
        case rest =>
         obtain ⟨Y22, hY⟩ : ∃ Y, Y = wc := ⟨_, rfl⟩
         subst hY
         obtain ⟨rfl, hU, hK⟩ := hcut
         have HU23 := Lib.hid hU
         have HK24 := Lib.hid hK
         clear hU hK HU17 HK18
         cases B21 with
         | true =>
          have hij : i4 <= j4 := of_decide_eq_true ((Bool.and_eq_true _ _).mp HB.out.symm).1
          have HQ2 := Lib.hid ((scanDown_go (by omega) HB.out.symm).symm.trans HQ19.out)
          clear HB HQ19
          go_wp2
          go_roundw
          case rel => first | exact ⟨j4 - 1, by first | go_num | (congr 1; omega), by omega, by omega, HU23.out, HK24.out, HQ2.out⟩ | ((repeat apply Exists.intro); exact ⟨⟨j4 - 1, by first | go_num | (congr 1; omega), by omega, by omega, HU23.out, HK24.out, HQ2.out⟩, rfl⟩)
          case measure => first | (simp [intOf]; done) | (simp [intOf]; omega)
         | false =>
          have HS20 := Lib.hid (HQ19.out.symm.trans (scanDown_stop HB.out.symm))
          have HS20c := HB
          clear HQ19 HB
          by_cases hgt4 : j4 < i4
          ·have i10 : (j4 : Int) < (i4 : Int) := by omega
           have HRE : Hid (R0 = (i4, dk)) := HQA.out.symm.trans (partEqLoop_stop HS11.out HS20.out hgt4)
           clear HQA HS11 HS20 HS11c HS20c
           go_wp2
           go_ret
           rw [HRE.out]
           exact ⟨rfl, HU23.out, HK24.out⟩
          ·have i10 : ¬ (j4 : Int) < (i4 : Int) := by omega
           have HRE : Hid (partEqLoop ltInt a (i4 + 1) (j4 - 1) (swp dk i4 j4) = R0) := (partEqLoop_go HS11.out HS20.out (by omega) (by omega) (by omega) (by omega)).symm.trans HQA.out
           have hne8 : ¬ i4 = j4 := scan_ne2 HS11c.out HS20c.out (fun e => by rw [e]) (by omega) (by omega)
           clear HQA HS11 HS20 HS11c HS20c
           go_upto_region 8 with fail
           go_cut [] (fun wx => UR wx g (swp dk i4 j4) /\ KG g w wx)
           case first =>
            have bi : i4 < (dk : Array Int).size /\ j4 < (dk : Array Int).size := (⟨by have := hdsz.out; omega, by have := hdsz.out; omega⟩ : i4 < (dk : Array Int).size /\ j4 < (dk : Array Int).size)
            have hU := HU23.out
            have hK := HK24.out
            have cx := hU.cell i4 bi.1
            have cy := hU.cell j4 bi.2
            have fx := hU.froz i4 bi.1
            have fy := hU.froz j4 bi.2
            obtain ⟨x, hx⟩ : ∃ x, x = (dk : Array Int)[i4]! := ⟨_, rfl⟩
            obtain ⟨y, hy⟩ : ∃ y, y = (dk : Array Int)[j4]! := ⟨_, rfl⟩
            have HSW := Lib.hid (hU.swp (i := i4) (j := j4) bi.1 bi.2 hx hy).drew
            have HSK := Lib.hid (hK.trans (KG.swp (g := g) Y22 i4 j4 (.int .u64 y) (.int .u64 x))).drew
            have i1 : (i4 : Int) < (n : Int) := by have := (⟨by have := hdsz.out; omega, by have := hdsz.out; omega⟩ : i4 < (dk : Array Int).size /\ j4 < (dk : Array Int).size); have := hdsz.out; omega
            have i2 : (j4 : Int) < (n : Int) := by have := (⟨by have := hdsz.out; omega, by have := hdsz.out; omega⟩ : i4 < (dk : Array Int).size /\ j4 < (dk : Array Int).size); have := hdsz.out; omega
            have hij : ¬ i4 = j4 := hne8
            rw [<- hx] at cx
            rw [<- hy] at cy
            clear hU hK hx hy
            go_wp2_with fail
            go_region
            go_wp2_with fail
            go_meet
            case rel => exact ⟨HSW.out, HSK.out⟩
           case rest =>
            obtain ⟨Y25, hY⟩ : ∃ Y, Y = wc := ⟨_, rfl⟩
            subst hY
            obtain ⟨hU, hK⟩ := hcut
            have HU26 := Lib.hid hU
            have HK27 := Lib.hid hK
            clear hU hK HU23 HK24
            have hds5 : Hid ((swp dk i4 j4).size = n) := by show _ = _; rw [swp_size]; exact hdsz.out
            go_wp2
            go_roundw
            case rel => first | exact ⟨i4 + 1, j4 - 1, swp dk i4 j4, by first | go_num | (congr 1; omega), by first | go_num | (congr 1; omega), by omega, by omega, by omega, by omega, hds5.out, HU26.out, HK27.out, HRE.out⟩ | ((repeat apply Exists.intro); exact ⟨⟨i4 + 1, j4 - 1, swp dk i4 j4, by first | go_num | (congr 1; omega), by first | go_num | (congr 1; omega), by omega, by omega, by omega, by omega, hds5.out, HU26.out, HK27.out, HRE.out⟩, rfl⟩)
            case measure => first | (simp [intOf]; done) | (simp [intOf]; omega)
end Go.Proofs.YtbklgjmkdhinpaaGreatDoor.Sr
