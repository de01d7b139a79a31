/- pdqsort. -/
import Derived.Test.YtbklgjmkdhinpaaGreatDoorSrIns
import Derived.Test.YtbklgjmkdhinpaaGreatDoorSrHeap
set_option maxHeartbeats 8000000
set_option maxRecDepth 100000
namespace Go.Proofs.YtbklgjmkdhinpaaGreatDoor.Sr
open Go.RowKit Go.Maps Go.Proofs.YtbklgjmkdhinpaaGreatDoor.Bd Go.Proofs.YtbklgjmkdhinpaaGreatDoor.Fm Go.Sort
theorem piv_in {d : Array Int} {a b : Nat} (h : a < b) : a <= (choosePivot ltInt d a b).1 /\ (choosePivot ltInt d a b).1 < b := choosePivot_holds ltInt d a b h
def PdqOut (g n a b : Nat) (d : Array Int) (w : World) (e : Ending) (w' : World) : Prop := ∃ d', e = .returned (.tuple #[]) /\ d'.size = n /\ UR w' g d' /\ PermIn a b d d' /\ SortedIn ltInt a b d' /\ KG g w w'
theorem pdq_step (g cap n : Nat) (hn : n < 256) (N : Nat)
  (ih : ∀ (a b lim : Nat) (d : Array Int) (w : World), b - a < N -> UR w g d -> d.size = n -> a <= b -> b <= n -> Go.Sort.Below ltInt a b d -> lim <= 1000 -> Calls Tryz.prog 57 #[.slice (some ⟨g, 0, none⟩) n cap, .int .i64 (a : Int), .int .i64 (b : Int), .int .i64 (lim : Int)] w (PdqOut g n a b d w))
  (a b lim : Nat) (d : Array Int) (w : World) (hN : b - a <= N) (h : UR w g d) (hd : d.size = n) (hab : a <= b) (hb : b <= n) (hB : Go.Sort.Below ltInt a b d) (hl : lim <= 1000) :
  Calls Tryz.prog 57 #[.slice (some ⟨g, 0, none⟩) n cap, .int .i64 (a : Int), .int .i64 (b : Int), .int .i64 (lim : Int)] w (PdqOut g n a b d w) := by
 have IH := Lib.hid ih
 have h0 := Lib.hid h
 have HD := Lib.hid hd
 have HB0 := Lib.hid hB
 clear ih h hd hB
 go_enter Tryz.func57, Tryz.ntmps57
 go_wp2_with fail
 go_loopw [1, 2, 3, 8, 9] (fun aV bV lV BV PV wr => ∃ (a1 b1 l1 : Nat) (B P : Bool) (dk : Array Int), aV = .int .i64 (a1 : Int) /\ bV = .int .i64 (b1 : Int) /\ lV = .int .i64 (l1 : Int) /\ BV = .bool B /\ PV = .bool P /\ a1 <= b1 /\ b1 <= n /\ b1 - a1 <= N /\ l1 <= 1000 /\ dk.size = n /\ UR wr g dk /\ KG g w wr /\ Go.Sort.Below ltInt a1 b1 dk /\ ∀ R, PermIn a1 b1 dk R -> SortedIn ltInt a1 b1 R -> PermIn a b d R /\ SortedIn ltInt a b R) (fun aV bV _ _ _ _ => (intOf bV).toNat - (intOf aV).toNat)
 case atStart => exact ⟨a, b, lim, true, true, d, rfl, rfl, rfl, rfl, rfl, hab, hb, hN, hl, HD.out, h0.out, Kept.refl _ _, HB0.out, fun R h1 h2 => ⟨h1, h2⟩⟩
 case round =>
  obtain ⟨X0, hX⟩ : ∃ X, X = wr := ⟨_, rfl⟩
  subst hX
  obtain ⟨a1, b1, l1, B, P, dk, rfl, rfl, rfl, rfl, rfl, c1, c2, c3, c4, hdk, hU, hK, hBl, hCt⟩ := hrel
  have HU := Lib.hid hU
  have HK := Lib.hid hK
  have HBL := Lib.hid hBl
  have HCT := Lib.hid hCt
  have HDK := Lib.hid hdk
  obtain ⟨L, hL⟩ : ∃ L, L = b1 - a1 := ⟨_, rfl⟩
  have wl : IntKind.i64.wrap ((b1 : Int) - (a1 : Int)) = (L : Int) := by rw [IntKind.wrap_i64]; omega
  have HL := Lib.hid hL
  have hLs : a1 + L = b1 := by omega
  clear hU hK hBl hCt hdk hL HB0 HD h0
  by_cases h12 : L <= 12
  ·have i12 : (L : Int) <= 12 := by omega
   have HI := ins_any g cap dk a1 b1 X0 HU.out c1 (by rw [HDK.out]; exact c2) (by rw [HDK.out]; omega)
   rw [HDK.out] at HI
   have HII := Lib.hid HI
   clear HI
   go_wp2_with fail
   refine HII.out.mono ?_
   rintro e w2 ⟨rfl, hU2, hK2⟩
   obtain ⟨p1, p2⟩ := insertionSort_holds swo_ltInt dk a1 b1 c1 (by rw [HDK.out]; exact c2)
   have HF : Hid (PdqOut g n a b d w (.returned (.tuple #[])) w2) := ⟨_, rfl, by rw [p1.1]; exact HDK.out, hU2, (HCT.out _ p1 p2).1, (HCT.out _ p1 p2).2, HK.out.trans hK2⟩
   clear hU2 hK2 p1 p2 HII HU HK HCT HBL
   go_wp2
   first | refine bodyPost_ret (v := .tuple #[]) (by first | simp [results, go_sem] | simp [results, Tryz.results57, go_sem]) rfl ?_ | refine bodyPost_end (v := .tuple #[]) (by first | simp [results, go_sem] | simp [results, Tryz.results57, go_sem]) rfl ?_
   exact HF.out
  have i12 : ¬ (L : Int) <= 12 := by omega
  have hab1 : a1 < b1 := by omega
  by_cases hl0 : l1 = 0
  ·subst hl0
   have HI := heap_any g cap dk a1 b1 X0 HU.out hab1 (by rw [HDK.out]; exact c2) (by rw [HDK.out]; omega)
   rw [HDK.out] at HI
   have HII := Lib.hid HI
   clear HI
   go_wp2_with fail
   refine HII.out.mono ?_
   rintro e w2 ⟨rfl, hU2, hK2⟩
   obtain ⟨p1, p2⟩ := heapSort_holds swo_ltInt dk a1 b1 c1 (by rw [HDK.out]; exact c2)
   have HF : Hid (PdqOut g n a b d w (.returned (.tuple #[])) w2) := ⟨_, rfl, by rw [p1.1]; exact HDK.out, hU2, (HCT.out _ p1 p2).1, (HCT.out _ p1 p2).2, HK.out.trans hK2⟩
   clear hU2 hK2 p1 p2 HII HU HK HCT HBL
   go_wp2
   first | refine bodyPost_ret (v := .tuple #[]) (by first | simp [results, go_sem] | simp [results, Tryz.results57, go_sem]) rfl ?_ | refine bodyPost_end (v := .tuple #[]) (by first | simp [results, go_sem] | simp [results, Tryz.results57, go_sem]) rfl ?_
   exact HF.out
  have il0 : (((l1 : Int)) == 0) = false := by rw [beq_eq_false_iff_ne]; omega
  obtain ⟨lm, hlm⟩ : ∃ lm, lm = l1 - 1 := ⟨_, rfl⟩
  have wlm : IntKind.i64.wrap ((l1 : Int) - 1) = (lm : Int) := by rw [IntKind.wrap_i64]; omega
  have hlm2 : lm <= 1000 := by omega
  clear hlm
  go_upto_if 35 with fail
  go_cut [3] (fun v wx => ∃ (l2 : Nat) (d1 : Array Int), v = .int .i64 (l2 : Int) /\ l2 <= 1000 /\ UR wx g d1 /\ PermIn a1 b1 dk d1 /\ KG g w wx)
  case first =>
   cases B with
   | true =>
    go_wp2_with fail
    go_meet
    case rel => exact ⟨l1, dk, rfl, c4, HU.out, permIn_refl _ _ _, HK.out⟩
   | false =>
    have HI := break_any g cap dk a1 b1 X0 HU.out (by omega) (by rw [HDK.out]; exact c2) (by rw [HDK.out]; omega)
    rw [HDK.out] at HI
    have HII := Lib.hid HI
    have HKK := Lib.hid HK.out
    clear HI HU HK HCT HBL
    go_wp2_with fail
    refine HII.out.mono ?_
    rintro e w2 ⟨d1, rfl, hU2, hP2, hK2⟩
    have HF := Lib.hid (⟨hU2, hP2, HKK.out.trans hK2⟩ : UR w2 g d1 /\ PermIn a1 b1 dk d1 /\ KG g w w2)
    clear hU2 hP2 hK2 HII
    go_wp2_with fail
    go_meet
    case rel => exact ⟨lm, d1, rfl, hlm2, HF.out.1, HF.out.2.1, HF.out.2.2⟩
  case rest =>
   obtain ⟨X1, hY⟩ : ∃ Y, Y = wc := ⟨_, rfl⟩
   subst hY
   obtain ⟨l2, d1, rfl, hl2, hU, hP, hK⟩ := hcut
   have HU1 := Lib.hid hU
   have HK1 := Lib.hid hK
   have HP1 := Lib.hid hP
   have HD1 : Hid (d1.size = n) := hP.1.trans HDK.out
   clear hU hK hP HU HK
   have HI := pivot_any g cap d1 a1 b1 X1 HU1.out (by omega) (by rw [HD1.out]; exact c2) (by rw [HD1.out]; omega)
   rw [HD1.out] at HI
   have hpr := piv_in (d := d1) hab1
   obtain ⟨p, hp⟩ : ∃ p, p = (choosePivot ltInt d1 a1 b1).1 := ⟨_, rfl⟩
   obtain ⟨H, hH⟩ : ∃ H, H = (choosePivot ltInt d1 a1 b1).2 := ⟨_, rfl⟩
   rw [<- hp, <- hH] at HI
   rw [<- hp] at hpr
   have HII := Lib.hid HI
   clear HI hp hH wlm il0
   go_wp2_with fail
   refine HII.out.mono ?_
   rintro e X2 ⟨rfl, hb2⟩
   have HU2 := Lib.hid (HU1.out.kept (Kept.of_below hb2 (fun _ => False)) (fun h => h))
   have HK2 : Hid (KG g w X2) := HK1.out.trans (Kept.of_below hb2 _)
   clear hb2 HII HU1 HK1
   obtain ⟨hv, hhv⟩ : ∃ hv, hv = hintV H := ⟨_, rfl⟩
   rw [<- hhv]
   clear hhv
   have wp1 : IntKind.i64.wrap ((b1 : Int) - 1) = (b1 : Int) - 1 := by rw [IntKind.wrap_i64]; omega
   have wp2 : IntKind.i64.wrap ((p : Int) - (a1 : Int)) = (p : Int) - (a1 : Int) := by rw [IntKind.wrap_i64]; omega
   obtain ⟨p2, hp2⟩ : ∃ p2, p2 = (b1 - 1) - (p - a1) := ⟨_, rfl⟩
   have wp3 : IntKind.i64.wrap ((b1 : Int) - 1 - ((p : Int) - (a1 : Int))) = (b1 : Int) - 1 - ((p : Int) - (a1 : Int)) := by rw [IntKind.wrap_i64]; omega
   have hp2e : Value.int .i64 ((b1 : Int) - 1 - ((p : Int) - (a1 : Int))) = .int .i64 (p2 : Int) := by congr 1; omega
   have hp2r : a1 <= p2 /\ p2 < b1 := by omega
   have HP2E := Lib.hid hp2e
   clear hp2 hp2e
   go_upto_if 50 with fail
   go_cut [11, 12] (fun v u wx => ∃ (q : Nat) (z : Int) (d2 : Array Int), v = .int .i64 (q : Int) /\ u = .int .i64 z /\ a1 <= q /\ q < b1 /\ UR wx g d2 /\ PermIn a1 b1 d1 d2 /\ KG g w wx)
   case first =>
    have HKK := Lib.hid HK2.out
    have HUU := Lib.hid HU2.out
    by_cases h2 : hv = 2
    ·subst h2
     have HI := rev_any g cap d1 a1 b1 X2 HUU.out hab1 (by rw [HD1.out]; exact c2) (by rw [HD1.out]; omega)
     rw [HD1.out] at HI
     have HII := Lib.hid HI
     clear HI HU2 HK2 HCT HBL
     go_wp2_with fail
     refine HII.out.mono ?_
     rintro e w2 ⟨rfl, hU3, hK3⟩
     have hperm := reverseRange_holds d1 a1 b1 c1 (by rw [HD1.out]; exact c2)
     have HF := Lib.hid (⟨hU3, hperm, HKK.out.trans hK3⟩ : UR w2 g (reverseRange d1 a1 b1) /\ PermIn a1 b1 d1 (reverseRange d1 a1 b1) /\ KG g w w2)
     clear hU3 hK3 hperm HII
     go_wp2_with fail
     go_meet
     case rel => exact ⟨p2, 1, _, HP2E.out, rfl, hp2r.1, hp2r.2, HF.out.1, HF.out.2.1, HF.out.2.2⟩
    ·have ih2 : (hv == 2) = false := by rw [beq_eq_false_iff_ne]; exact h2
     clear HU2 HK2 HCT HBL
     go_wp2_with fail
     go_meet
     case rel => exact ⟨p, hv, d1, rfl, rfl, hpr.1, hpr.2, HUU.out, permIn_refl _ _ _, HKK.out⟩
   case rest =>
    obtain ⟨X3, hY⟩ : ∃ Y, Y = wc := ⟨_, rfl⟩
    subst hY
    obtain ⟨q, z, d2, rfl, rfl, hq1, hq2, hU, hP, hK⟩ := hcut
    have HU3 := Lib.hid hU
    have HK3 := Lib.hid hK
    have HP2 := Lib.hid (permIn_trans _ _ _ a1 b1 HP1.out hP)
    have HD2 : Hid (d2.size = n) := hP.1.trans HD1.out
    clear hU hK hP HU2 HK2 HP1 HP2E wp1 wp2 wp3 hp2r hpr HD1
    go_upto_region 15 with fail
    go_cut [68] (fun v wx => (∃ E : Bool, v = .bool E) /\ UR wx g d2 /\ KG g w wx)
    case first =>
     have HKK := Lib.hid HK3.out
     have HUU := Lib.hid HU3.out
     clear HU3 HK3 HCT HBL HP2
     cases B with
     | false =>
      go_wp2_with fail
      go_meet
      case rel => exact ⟨⟨_, rfl⟩, HUU.out, HKK.out⟩
     | true =>
      cases P with
      | false =>
       go_wp2_with fail
       go_meet
       case rel => exact ⟨⟨_, rfl⟩, HUU.out, HKK.out⟩
      | true =>
       go_wp2_with fail
       go_meet
       case rel => exact ⟨⟨_, rfl⟩, HUU.out, HKK.out⟩
    case rest =>
     obtain ⟨X3b, hY⟩ : ∃ Y, Y = wc := ⟨_, rfl⟩
     subst hY
     obtain ⟨⟨E, rfl⟩, hU, hK⟩ := hcut
     clear HU3 HK3
     have HU3 := Lib.hid hU
     have HK3 := Lib.hid hK
     clear hU hK
     go_upto_if 68 with fail
     go_cut [] (fun wx => ∃ d3 : Array Int, UR wx g d3 /\ PermIn a1 b1 d2 d3 /\ KG g w wx)
     case first =>
      have HKK := Lib.hid HK3.out
      have HUU := Lib.hid HU3.out
      have HFIN : Hid (∀ wx, UR wx g d2 -> KG g w wx -> ∃ d3 : Array Int, UR wx g d3 /\ PermIn a1 b1 d2 d3 /\ KG g w wx) := fun wx h1 h2 => ⟨d2, h1, permIn_refl _ _ _, h2⟩
      cases E with
      | true =>
       have HI := pins_any g cap d2 a1 b1 X3b HUU.out hab1 (by rw [HD2.out]; exact c2) (by rw [HD2.out]; omega)
       rw [HD2.out] at HI
       have hB2 := Go.Sort.Below.perm HBL.out (by rw [HDK.out]; exact c2) HP2.out
       obtain ⟨p1, p2'⟩ := partialInsertionSort_holds swo_ltInt d2 a1 b1 hab1 (by rw [HD2.out]; exact c2) hB2
       have HSRT := Lib.hid p2'
       have HPRM := Lib.hid p1
       obtain ⟨ok, hok⟩ : ∃ ok, ok = (partialInsertionSort ltInt d2 a1 b1).2 := ⟨_, rfl⟩
       rw [<- hok] at HI HSRT
       have HII := Lib.hid HI
       clear HI HU3 HK3 hB2 p1 p2' hok HFIN
       go_wp2_with fail
       refine HII.out.mono ?_
       rintro e w2 ⟨rfl, hU4, hK4⟩
       have HU4 := Lib.hid hU4
       have HK4 := Lib.hid (HKK.out.trans hK4)
       clear hU4 hK4 HII
       cases ok with
       | true =>
        have HF : Hid (PdqOut g n a b d w (.returned (.tuple #[])) w2) := by
         have s := HCT.out _ (permIn_trans _ _ _ a1 b1 HP2.out HPRM.out) (HSRT.out rfl)
         exact ⟨_, rfl, by rw [HPRM.out.1]; exact HD2.out, HU4.out, s.1, s.2, HK4.out⟩
        clear HU4 HK4 HPRM HSRT HCT HBL HP2
        go_wp2
        first | refine bodyPost_ret (v := .tuple #[]) (by first | simp [results, go_sem] | simp [results, Tryz.results57, go_sem]) rfl ?_ | refine bodyPost_end (v := .tuple #[]) (by first | simp [results, go_sem] | simp [results, Tryz.results57, go_sem]) rfl ?_
        exact HF.out
       | false =>
        clear HSRT HCT HBL HP2
        go_wp2_with fail
        go_meet
        case rel => exact ⟨_, HU4.out, HPRM.out, HK4.out⟩
      | false =>
       clear HU3 HK3 HCT HBL HP2
       go_wp2_with fail
       go_meet
       case rel => exact HFIN.out _ HUU.out HKK.out
     case rest =>
      obtain ⟨X4, hY⟩ : ∃ Y, Y = wc := ⟨_, rfl⟩
      subst hY
      obtain ⟨d3, hU, hP, hK⟩ := hcut
      have HU4 := Lib.hid hU
      have HK4 := Lib.hid hK
      have HP3 := Lib.hid (permIn_trans _ _ _ a1 b1 HP2.out hP)
      have HD3 : Hid (d3.size = n) := hP.1.trans HD2.out
      have HB3 : Hid (Go.Sort.Below ltInt a1 b1 d3) := Go.Sort.Below.perm HBL.out (by rw [HDK.out]; exact c2) HP3.out
      clear hU hK hP HU3 HK3 HP2 HD2 HBL
      obtain ⟨C, hC⟩ : ∃ C, C = (decide (0 < a1) && !ltInt (d3 : Array Int)[a1 - 1]! (d3 : Array Int)[q]!) := ⟨_, rfl⟩
      have HC := Lib.hid hC
      obtain ⟨am, ham⟩ : ∃ am, am = a1 - 1 := ⟨_, rfl⟩
      have wam : 0 < a1 -> IntKind.i64.wrap ((a1 : Int) - 1) = (am : Int) := fun h => by rw [IntKind.wrap_i64]; omega
      have HAM := Lib.hid ham
      have HWAM := Lib.hid wam
      clear hC ham wam
      go_upto_region 17 with fail
      go_cut [87] (fun v wx => v = .bool C /\ UR wx g d3 /\ KG g w wx)
      case first =>
       have HUN : Hid (∀ m, UR (X4.drewN m) g d3) := HU4.out.drewN
       have HKN : Hid (∀ m, KG g w (X4.drewN m)) := HK4.out.drewN
       by_cases h0a : 0 < a1
       ·have waa := HWAM.out h0a
        have bi : am < d3.size /\ q < d3.size := by rw [HD3.out]; have := HAM.out; omega
        have cx := HU4.out.cell am bi.1
        have cy := HU4.out.cell q bi.2
        have i1 : (am : Int) < (n : Int) := by have := HD3.out; omega
        have i2 : (q : Int) < (n : Int) := by have := HD3.out; omega
        have i3 : (0 : Int) < (a1 : Int) := by omega
        obtain ⟨x, hx⟩ : ∃ x, x = (d3 : Array Int)[am]! := ⟨_, rfl⟩
        obtain ⟨y, hy⟩ : ∃ y, y = (d3 : Array Int)[q]! := ⟨_, rfl⟩
        have HBV : Hid (Value.bool (!decide (x < y)) = .bool C) := by
         rw [HC.out, decide_eq_true h0a, Bool.true_and, <- HAM.out, hx, hy]; rfl
        rw [<- hx] at cx
        rw [<- hy] at cy
        clear hx hy bi HC HU4 HK4 HCT HB3 HP3
        go_wp2_with fail
        go_quiet (first | (go_at_call 94; refine Calls.quiet_of_same (lessU_q _ _ _)))
        go_wp2_with fail
        go_meet
        case rel => exact ⟨HBV.out, HUN.out _, HKN.out _⟩
       ·have i3 : decide ((0 : Int) < (a1 : Int)) = false := by simp; omega
        have i4 : a1 = 0 := by omega
        have HBV : Hid (Value.bool false = .bool C) := by
         rw [HC.out, decide_eq_false h0a, Bool.false_and]; exact rfl
        clear HC HU4 HK4 HCT HB3 HP3
        go_wp2_with fail
        go_quiet (fail)
        go_wp2_with fail
        go_meet
        case rel => exact ⟨HBV.out, HUN.out _, HKN.out _⟩
      case rest =>
       obtain ⟨X5, hY⟩ : ∃ Y, Y = wc := ⟨_, rfl⟩
       subst hY
       obtain ⟨rfl, hU, hK⟩ := hcut
       have HU5 := Lib.hid hU
       have HK5 := Lib.hid hK
       clear hU hK HU4 HK4
       have hq2n : q < n := by omega
       cases C with
       | true =>
        have hc2 := (Bool.and_eq_true _ _).mp HC.out.symm
        have h0a : 0 < a1 := of_decide_eq_true hc2.1
        have hnl : ltInt d3[a1 - 1]! d3[q]! = false := by simpa using hc2.2
        obtain ⟨m2, d4, hx⟩ : ∃ m2 d4, partitionEqual ltInt d3 a1 b1 q = (m2, d4) := ⟨_, _, rfl⟩
        obtain ⟨r1, r2, r3, r4, r5⟩ := round_eq swo_ltInt (partitionEqual_holds _) h0a hq1 hq2 (by rw [HD3.out]; exact c2) HB3.out hnl hx
        have HI := parte_any g cap d3 a1 b1 q X5 HU5.out hq1 hq2 (by rw [HD3.out]; exact c2) (by rw [HD3.out]; omega)
        rw [HD3.out, hx] at HI
        have HII := Lib.hid HI
        have HR4 := Lib.hid r4
        have HR5 := Lib.hid r5
        have HR3 : Hid (d4.size = n) := r3.trans HD3.out
        clear HI r3 r4 r5 hx hc2 hnl HC
        go_wp2_with fail
        refine HII.out.mono ?_
        rintro e w6 ⟨rfl, hU6, hK6⟩
        have HU6 := Lib.hid hU6
        have HK6 := Lib.hid (HK5.out.trans hK6)
        have HCC : Hid (∀ R, PermIn m2 b1 d4 R -> SortedIn ltInt m2 b1 R -> PermIn a b d R /\ SortedIn ltInt a b R) := fun R h1 h2 => HCT.out R (permIn_trans _ _ _ a1 b1 HP3.out (HR5.out R h1 h2).1) (HR5.out R h1 h2).2
        clear hU6 hK6 HII HCT HP3 HR5 HU5 HK5
        go_wp2
        go_roundw
        case rel => first | exact ⟨m2, b1, l2, B, P, d4, rfl, rfl, rfl, rfl, rfl, r2, c2, by omega, hl2, HR3.out, HU6.out, HK6.out, HR4.out, HCC.out⟩ | ((repeat apply Exists.intro); exact ⟨⟨m2, b1, l2, B, P, d4, rfl, rfl, rfl, rfl, rfl, r2, c2, by omega, hl2, HR3.out, HU6.out, HK6.out, HR4.out, HCC.out⟩, rfl⟩)
        case measure => first | (simp [intOf]; done) | (simp [intOf]; omega)
       | false =>
        obtain ⟨m2, ap, d4, hx⟩ : ∃ m2 ap d4, Go.Sort.partition ltInt d3 a1 b1 q = (m2, ap, d4) := ⟨_, _, _, rfl⟩
        obtain ⟨r1, r2, r3, r4, r5, r6, r7⟩ := round_part swo_ltInt (partition_holds _) hq1 hq2 (by rw [HD3.out]; exact c2) HB3.out hx
        have HI := part_any g cap d3 a1 b1 q X5 HU5.out hq1 hq2 (by rw [HD3.out]; exact c2) (by rw [HD3.out]; omega)
        rw [HD3.out, hx] at HI
        have HII := Lib.hid HI
        have HR4 := Lib.hid r4
        have HR5 := Lib.hid r5
        have HR6 := Lib.hid r6
        have HR7 := Lib.hid r7
        have HR3 : Hid (d4.size = n) := r3.trans HD3.out
        clear HI r3 r4 r5 r6 r7 hx HC
        go_wp2_with fail
        refine HII.out.mono ?_
        rintro e w6 ⟨rfl, hU6, hK6⟩
        have HU6 := Lib.hid hU6
        have HK6 := Lib.hid (HK5.out.trans hK6)
        have s1 : IntKind.i64.wrap ((m2 : Int) - (a1 : Int)) = (m2 : Int) - (a1 : Int) := by rw [IntKind.wrap_i64]; omega
        have s2 : IntKind.i64.wrap ((b1 : Int) - (m2 : Int)) = (b1 : Int) - (m2 : Int) := by rw [IntKind.wrap_i64]; omega
        have s3 : IntKind.i64.wrap ((m2 : Int) + 1) = ((m2 + 1 : Nat) : Int) := by rw [IntKind.wrap_i64]; omega
        clear hU6 hK6 HII HU5 HK5
        by_cases hlr : m2 - a1 < b1 - m2
        ·have ilr : (m2 : Int) - (a1 : Int) < (b1 : Int) - (m2 : Int) := by omega
         have HRC := Lib.hid (IH.out a1 m2 l2 d4 w6 (by omega) HU6.out HR3.out r1 (by omega) HR4.out hl2)
         unfold PdqOut at HRC
         clear HR4 HR5 HR7
         go_wp2_with fail
         refine HRC.out.mono ?_
         rintro e w7 ⟨d5, rfl, hd5, hU7, hP7, hS7, hK7⟩
         obtain ⟨t1, t2⟩ := HR6.out d5 hP7 hS7
         have HU7 := Lib.hid hU7
         have HK7 := Lib.hid (HK6.out.trans hK7)
         have HT1 := Lib.hid t1
         have HCC : Hid (∀ R, PermIn (m2 + 1) b1 d5 R -> SortedIn ltInt (m2 + 1) b1 R -> PermIn a b d R /\ SortedIn ltInt a b R) := fun R h1 h2 => HCT.out R (permIn_trans _ _ _ a1 b1 HP3.out (t2 R h1 h2).1) (t2 R h1 h2).2
         have HD5 := Lib.hid hd5
         clear hU7 hK7 t1 t2 hP7 hS7 hd5 HRC HR6 HCT HP3 HU6 HK6
         go_wp2
         go_roundw
         case rel => first | exact ⟨m2 + 1, b1, l2, _, ap, d5, by first | rfl | go_num | (congr 1; omega), rfl, rfl, rfl, rfl, by omega, c2, by omega, hl2, HD5.out, HU7.out, HK7.out, HT1.out, HCC.out⟩ | ((repeat apply Exists.intro); exact ⟨⟨m2 + 1, b1, l2, _, ap, d5, by first | rfl | go_num | (congr 1; omega), rfl, rfl, rfl, rfl, by omega, c2, by omega, hl2, HD5.out, HU7.out, HK7.out, HT1.out, HCC.out⟩, rfl⟩)
         case measure => first | (simp [intOf]; done) | (simp [intOf]; omega)
        ·have ilr : ¬ (m2 : Int) - (a1 : Int) < (b1 : Int) - (m2 : Int) := by omega
         have HRC := Lib.hid (IH.out (m2 + 1) b1 l2 d4 w6 (by omega) HU6.out HR3.out (by omega) c2 HR5.out hl2)
         unfold PdqOut at HRC
         clear HR4 HR5 HR6
         go_wp2_with fail
         refine HRC.out.mono ?_
         rintro e w7 ⟨d5, rfl, hd5, hU7, hP7, hS7, hK7⟩
         obtain ⟨t1, t2⟩ := HR7.out d5 hP7 hS7
         have HU7 := Lib.hid hU7
         have HK7 := Lib.hid (HK6.out.trans hK7)
         have HT1 := Lib.hid t1
         have HCC : Hid (∀ R, PermIn a1 m2 d5 R -> SortedIn ltInt a1 m2 R -> PermIn a b d R /\ SortedIn ltInt a b R) := fun R h1 h2 => HCT.out R (permIn_trans _ _ _ a1 b1 HP3.out (t2 R h1 h2).1) (t2 R h1 h2).2
         have HD5 := Lib.hid hd5
         clear hU7 hK7 t1 t2 hP7 hS7 hd5 HRC HR7 HCT HP3 HU6 HK6
         go_wp2
         go_roundw
         case rel => first | exact ⟨a1, m2, l2, _, ap, d5, rfl, rfl, rfl, rfl, rfl, r1, by omega, by omega, hl2, HD5.out, HU7.out, HK7.out, HT1.out, HCC.out⟩ | ((repeat apply Exists.intro); exact ⟨⟨a1, m2, l2, _, ap, d5, rfl, rfl, rfl, rfl, rfl, r1, by omega, by omega, hl2, HD5.out, HU7.out, HK7.out, HT1.out, HCC.out⟩, rfl⟩)
         case measure => first | (simp [intOf]; done) | (simp [intOf]; omega)
theorem pdq_any (g cap n : Nat) (hn : n < 256) : ∀ (N a b lim : Nat) (d : Array Int) (w : World), b - a < N -> UR w g d -> d.size = n -> a <= b -> b <= n -> Go.Sort.Below ltInt a b d -> lim <= 1000 -> Calls Tryz.prog 57 #[.slice (some ⟨g, 0, none⟩) n cap, .int .i64 (a : Int), .int .i64 (b : Int), .int .i64 (lim : Int)] w (PdqOut g n a b d w)
 | 0, a, b, lim, d, w, h, _, _, _, _, _, _ => absurd h (Nat.not_lt_zero _)
 | N + 1, a, b, lim, d, w, h, h1, h2, h3, h4, h5, h6 => pdq_step g cap n hn N (pdq_any g cap n hn N) a b lim d w (by omega) h1 h2 h3 h4 h5 h6
end Go.Proofs.YtbklgjmkdhinpaaGreatDoor.Sr
