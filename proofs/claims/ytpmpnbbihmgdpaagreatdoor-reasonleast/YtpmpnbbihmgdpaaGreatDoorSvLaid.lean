/- What the rows' lists of laid variables give; and a world in which they hold. -/
import Derived.Test.YtpmpnbbihmgdpaaGreatDoorCtRead
import Derived.Test.YtpmpnbbihmgdpaaGreatDoorCards
import Derived.Test.YtpmpnbbihmgdpaaGreatDoorTie
import Derived.Test.YtpmpnbbihmgdpaaGreatDoorSvPart
import Derived.ProofKit
import Derived.OpenShut
import Derived.Deep.DeepHandedRow
import Derived.LaidHandle
import Derived.LaidSub
import Derived.Stop.LaidErr
import Derived.Shelf.Vars
import Derived.Lib.LaidTab
set_option maxHeartbeats 2000000
set_option maxRecDepth 100000
namespace Go.Proofs.YtpmpnbbihmgdpaaGreatDoor
section
open Go.RowKit Go.Deep Sv
theorem ofL_said (its : List It) (ls : List Ln) : ∀ x ∈ ofL its ls, x.1 = -1 \/ ∃ n : Nat, n ∈ saidF ls /\ n < ls.length /\ x.1 = (n : Int) := by
 intro x hx
 rcases List.mem_append.1 hx with hx | hx
 ·exact (ofL_from its ls x (List.mem_append.2 (Or.inl hx))).elim Or.inl (fun ⟨n, hn, h⟩ => by
   obtain ⟨k, _, hx⟩ := List.mem_flatMap.1 hx
   obtain ⟨j, _, hx⟩ := List.mem_flatMap.1 hx
   unfold pr0 at hx
   split at hx
   ·rw [List.mem_singleton] at hx
    subst hx
    exact Or.inl rfl
   ·cases hx)
 ·obtain ⟨n, hn, hx⟩ := List.mem_flatMap.1 hx
  have hn' := List.mem_range.1 hn
  have hk : (ls.getD n default).kind ≠ 1 := fun e => by
   unfold lineC at hx
   rw [if_neg (by omega), if_neg (by omega), if_neg (by omega)] at hx
   cases hx
  refine Or.inr ⟨n, List.mem_filter.2 ⟨hn, by simpa using hk⟩, hn', ?_⟩
  unfold lineC at hx
  split at hx
  ·rw [List.mem_singleton] at hx
   subst hx
   rfl
  ·split at hx
   ·rw [List.mem_singleton] at hx
    subst hx
    rfl
   ·split at hx
    ·obtain ⟨k, _, rfl⟩ := List.mem_map.1 hx
     rfl
    ·cases hx
theorem only_said (its : List It) (ls : List Ln) : ctOnly (ofL its ls) (inF ls.length (saidF ls)) = (ofL its ls).map Prod.snd := by
 unfold ctOnly
 rw [List.filter_eq_self.2]
 intro x hx
 rcases ofL_said its ls x hx with h | ⟨n, h1, h2, h⟩
 ·simp [ctTold, h]
 ·simp only [ctTold, h, Int.toNat_natCast]
  rw [inF_at _ h2]
  simp [h1]
theorem outP_all (l : List Nat) : ∀ x ∈ l, x ∈ outP l (-1) l.length := fun x hx => by
 obtain ⟨i, hi, rfl⟩ := List.getElem_of_mem hx
 unfold outP
 refine List.mem_map.2 ⟨i, List.mem_filter.2 ⟨List.mem_range.2 hi, ?_⟩, by rw [List.getD_eq_getElem?_getD, List.getElem?_eq_getElem hi]; rfl⟩
 simp
theorem outP_one (l : List Nat) (i : Nat) : ∀ x ∈ outP l (i : Int) l.length, x ∈ l.eraseIdx i := fun x hx => by
 unfold outP at hx
 obtain ⟨k, hk, rfl⟩ := List.mem_map.1 hx
 obtain ⟨h1, h2⟩ := List.mem_filter.1 hk
 have hkl := List.mem_range.1 h1
 have hne : (k : Int) ≠ (i : Int) := by simpa using h2
 rw [List.mem_eraseIdx_iff_getElem]
 exact ⟨k, hkl, by omega, by rw [List.getD_eq_getElem?_getD, List.getElem?_eq_getElem hkl]; rfl⟩
noncomputable def coreL (ls : List Ln) (its : List It) : List Nat := coreGo (canL ls its) (saidF ls).length (saidF ls)
structure CoreIs (ls : List Ln) (its : List It) (R : List Nat) : Prop where
 no : satB (ctOnly (ofL its ls) (inF 100 (outP R (-1) R.length))) = false
 yes : ∀ i : Nat, i < R.length -> satB (ctOnly (ofL its ls) (inF 100 (outP R (i : Int) R.length))) = true
 nodup : R.Nodup
 lt : ∀ x ∈ R, x < 100
 len : R.length <= 100
 asc : ∀ i, i + 1 < R.length -> R.getD i 0 < R.getD (i + 1) 0
theorem core_is {ls : List Ln} {its : List It} (h : newF ls = .ok its) (hno : canL ls its (saidF ls) = false) : CoreIs ls its (coreL ls its) := by
 have hl := (newF_ok h).2.1
 obtain ⟨q1, q2, q3⟩ := coreGo_ok (canL_mono ls its) (saidF ls).length (saidF ls) hno (Nat.le_refl _) (fun i h1 h2 => by omega)
 have hasc : (coreL ls its).Pairwise (· < ·) := List.Pairwise.sublist q2 (saidP_asc ls ls.length)
 have hlt : ∀ x ∈ coreL ls its, x < ls.length := fun x hx => saidP_lt ls ls.length x (q2.subset hx)
 have hlen : (coreL ls its).length <= ls.length := Nat.le_trans q2.length_le (saidP_len ls ls.length)
 change canL ls its (coreL ls its) = false at q1
 change ∀ i, i < (coreL ls its).length -> canL ls its ((coreL ls its).eraseIdx i) = true at q3
 generalize coreL ls its = R at *
 refine ⟨?_, fun i hi => ?_, List.Pairwise.imp (fun h => Nat.ne_of_lt h) hasc, fun x hx => by have := hlt x hx; omega, by omega, fun i hi => ?_⟩
 ·rw [only_wide its ls _ hl]
  cases e : satB (ctOnly (ofL its ls) (inF ls.length (outP R (-1) R.length))) with
  | false => rfl
  | true => rw [canL_mono ls its R _ (outP_all R) e] at q1; cases q1
 ·rw [only_wide its ls _ hl]
  exact canL_mono ls its _ _ (outP_one R i) (q3 i hi)
 ·have := List.pairwise_iff_getElem.1 hasc i (i + 1) (by omega) hi (by omega)
  rw [List.getD_eq_getElem?_getD, List.getD_eq_getElem?_getD, List.getElem?_eq_getElem hi, List.getElem?_eq_getElem (show i < R.length by omega)]
  exact this
theorem rleast_none (s : ByteArray) (w : World) (hw : Lw w) (hr : readF s 12 = none) : Calls Tryz.prog 5 #[.string s] w fun e w' => e = .returned (.bool true) /\ Below w.heap.size w w' := by
 have HRD0 := read_c s 12 w hw
 rw [hr] at HRD0
 have HRD : Hid (Calls Tryz.prog 25 #[.string s, .int .i64 12] w fun e w' => e = .returned (.tuple #[.pointer none, .agg #[.int .i64 0, .slice none 0 0, .slice none 0 0], .bool false]) /\ Below w.heap.size w w') := HRD0
 have HCO : Hid (∀ W, Below w.heap.size w W -> Calls Tryz.prog 26 #[] W fun e w' => e = .returned (.bool true) /\ Below W.heap.size W w') := fun W hb => cored_c W (hw.below hb)
 clear HRD0 hr hw
 go_enter Tryz.func5, Tryz.ntmps5
 go_wp2_with fail
 refine HRD.out.mono ?_
 rintro e w1 ⟨rfl, hb1⟩
 have HB1 : Hid (Below w.heap.size w (w1.alloc (.cells #[.int .i64 0, .slice none 0 0, .slice none 0 0] 65))) := hb1.alloc hb1.size _
 clear hb1 HRD
 go_upto_region 2 with fail
 generalize w1.alloc (.cells #[.int .i64 0, .slice none 0 0, .slice none 0 0] 65) = W1 at *
 go_wp2_with fail
 refine (HCO.out W1 HB1.out).mono ?_
 rintro e w2 ⟨rfl, hb2⟩
 have HB2 : Hid (Below w.heap.size w w2) := HB1.out.trans (hb2.mono HB1.out.size)
 clear hb2 HB1
 go_wp2_with fail
 refine (HCO.out w2 HB2.out).mono ?_
 rintro e w3 ⟨rfl, hb3⟩
 have HB3 : Hid (Below w.heap.size w w3) := HB2.out.trans (hb3.mono HB2.out.size)
 clear hb3 HB2 HCO
 go_wp2
 go_ret
 exact ⟨rfl, HB3.out⟩
end
section
open Go.RowKit Go.Deep Sv
theorem rleast_some (s : ByteArray) (w : World) (hw : Lw w) (ls : List Ln) (its : List It) (hr : readF s 12 = some (ls, its)) (hN : newF ls = .ok its) (hP : (ofL its ls).length <= 200) (hv : its.length <= 12) : Calls Tryz.prog 5 #[.string s] w fun e w' => e = .returned (.bool true) /\ Below w.heap.size w w' := by
 obtain ⟨hi24, hl100, hck⟩ := newF_ok hN
 have HRD0 := read_c s 12 w hw
 rw [hr] at HRD0
 have HRD : Hid (Calls Tryz.prog 25 #[.string s, .int .i64 12] w fun e w' => ∃ bc ca cc fa fc, e = .returned (.tuple #[.pointer (some ⟨bc, 0, none⟩), .agg #[.int .i64 (its.length : Int), .slice ca (ofL its ls).length cc, .slice fa (ofL its ls).length fc], .bool true]) /\ (ca = none -> cc = 0) /\ CatAt w' bc ls its /\ RS w.heap.size w' (.slice ca (ofL its ls).length cc) (.slice fa (ofL its ls).length fc) ((ofL its ls).map Prod.snd) ((ofL its ls).map Prod.fst) /\ Below w.heap.size w w') := by
  refine HRD0.mono fun e w' ⟨bc, cv, fv, h1, h2, h3, h4⟩ => ?_
  obtain ⟨ca, cc, e1, hn1⟩ : ∃ a c, cv = .slice a (ofL its ls).length c /\ (a = none -> c = 0) := by obtain ⟨cs, h1, _⟩ := h3.crow; obtain ⟨a, c, e, hn, _⟩ := (rowAt_own h1).form; exact ⟨a, c, by simpa using e, hn⟩
  obtain ⟨fa, fc, e2⟩ : ∃ a c, fv = .slice a (ofL its ls).length c := by obtain ⟨a, c, e, _⟩ := (rowAt_own h3.frow).form; exact ⟨a, c, by simpa using e⟩
  subst e1 e2
  exact ⟨bc, ca, cc, fa, fc, h1, hn1, h2, h3, h4⟩
 have HCO : Hid (∀ W, Below w.heap.size w W -> Calls Tryz.prog 26 #[] W fun e w' => e = .returned (.bool true) /\ Below W.heap.size W w') := fun W hb => cored_c W (hw.below hb)
 have hfine : ∀ x ∈ ofL its ls, x.2.length <= 1000 := fun x hx => by have := (ofL_fine hN x hx).2; omega
 have HCR : Hid (∀ W bc, CatAt W bc ls its -> Calls Tryz.prog 14 #[.pointer (some ⟨bc, 0, none⟩)] W fun e w' => ((canL ls its (saidF ls) = true /\ e = .returned (.tuple #[.slice none 0 0, .iface 34 (.int .i64 8)])) \/ (canL ls its (saidF ls) = false /\ ∃ a c, e = .returned (.tuple #[.slice a (coreL ls its).length c, .nilIface]) /\ IntsIn w' a (natI (coreL ls its)))) /\ Below W.heap.size W w') := fun W bc hcat =>
  core_c (canL ls its) bc ls its W hcat hi24 (by omega) (fun x hx => check_names (hck x hx)) hP hfine (fun l => only_check hN hP _) (fun l b er h => canE_lines hN hv _ h)
 have HKC : Hid (∀ (W : World) (cv fv : Value) (R : List Nat) (la : Option Addr) (lc : Nat) (wo : Int), RS w.heap.size W cv fv ((ofL its ls).map Prod.snd) ((ofL its ls).map Prod.fst) -> IntsIn W la (natI R) -> (∀ x ∈ R, x < 100) -> R.Nodup -> R.length <= 100 ->
   Calls Tryz.prog 29 #[.agg #[.int .i64 (its.length : Int), cv, fv], .slice la R.length lc, .int .i64 wo] W fun e w' => e = .returned (.tuple #[.bool (satB (ctOnly (ofL its ls) (inF 100 (outP R wo R.length)))), .bool true]) /\ Below W.heap.size W w') := fun W cv fv R la lc wo h1 h2 h3 h4 h5 => by
  refine (kcan_c w.heap.size its.length (ofL its ls) cv fv R la lc wo W h1 h2 h3 h4 (by omega) (by omega) hfine (only_check hN hP _)).mono ?_
  rintro e w' ⟨b, er, f, rfl, hf, hcan, hb⟩
  obtain ⟨rfl, rfl⟩ := canE_lines hN hv _ hcan
  obtain rfl : f = true := hf.2 rfl
  exact ⟨rfl, hb⟩
 have HSO : Hid (canL ls its (saidF ls) = true -> ∀ (W : World) (a : Option Addr) (cap : Nat), (a = none -> cap = 0) -> ClsIn W a ((ofL its ls).map Prod.snd) -> Calls Tryz.prog 27 #[.int .i64 (its.length : Int), .slice a (ofL its ls).length cap] W fun e w' => ∃ nn pa pn pc, e = .returned (.tuple #[.agg #[.bool true, .int .u64 nn, .slice pa pn pc], .nilIface]) /\ Below W.heap.size W w') := fun hyes W a cap h0 h1 => by
  have e := only_said its ls
  have hlen : ((ofL its ls).map Prod.snd).length = (ofL its ls).length := by simp
  have h2 := solve_can its.length ((ofL its ls).map Prod.snd) a cap h0 W h1 (by rw [hlen]; omega) (by rw [<- e]; exact only_check hN hP _)
  rw [hlen] at h2
  refine h2.mono ?_
  rintro e' w' ⟨b, nn, pa, pn, pc, er, rfl, hcan, hb⟩
  rw [<- e] at hcan
  obtain ⟨rfl, rfl⟩ := canE_lines hN hv _ hcan
  unfold canL at hyes
  rw [hyes]
  exact ⟨nn, pa, pn, pc, rfl, hb⟩
 have HTE : Hid (∀ W, Below w.heap.size w W -> Calls Tryz.prog 28 #[.iface 34 (.int .i64 8)] W fun e w' => e = .returned (.int .i64 8) /\ Below W.heap.size W w') := fun W hb => tell_errno 8 W (hw.below hb).lb.glob
 have HIS : Hid (canL ls its (saidF ls) = false -> CoreIs ls its (coreL ls its)) := fun h => core_is hN h
 clear HRD0 hr hw hck hfine hN
 obtain ⟨P, hPe⟩ : ∃ P, ofL its ls = P := ⟨_, rfl⟩
 rw [hPe] at HRD HKC HSO hP
 have HPE := Lib.hid hPe
 clear hPe
 go_enter Tryz.func5, Tryz.ntmps5
 go_wp2_with fail
 refine HRD.out.mono ?_
 rintro e w1 ⟨bc, ca, cc, fa, fc, rfl, hnc, hcat, hrs, hb1⟩
 have hbn := below_new w1 (.cells #[.int .i64 (its.length : Int), .slice ca P.length cc, .slice fa P.length fc] 65)
 have kr := Blk.new w1 65 #[.int .i64 (its.length : Int), .slice ca P.length cc, .slice fa P.length fc]
 have HRS := Lib.hid (hrs.new hbn)
 have HCAT := Lib.hid (hcat.below hbn (Nat.le_refl _))
 have HB1 := Lib.hid (hb1.trans (hbn.mono hb1.size))
 clear hcat hrs hb1 hbn HRD
 go_upto_region 2 with fail
 generalize w1.alloc (.cells #[.int .i64 (its.length : Int), .slice ca P.length cc, .slice fa P.length fc] 65) = W1 at *
 generalize w1.heap.size = b4 at *
 go_wp2_with fail
 refine (HCO.out W1 HB1.out).mono ?_
 rintro e w2 ⟨rfl, hb2⟩
 have HB2 : Hid (Below w.heap.size w w2) := HB1.out.trans (hb2.mono HB1.out.size)
 have KR := Lib.hid (kr.below hb2 kr.lt)
 have HRS2 := Lib.hid (HRS.out.new hb2)
 have HC2 := Lib.hid (HCR.out w2 bc (HCAT.out.below hb2 (Nat.le_refl _)))
 clear hb2 HB1 HCO HRS HCAT HCR kr
 go_wp2_with fail
 refine HC2.out.mono ?_
 rintro e w3 ⟨hor, hb3⟩
 have HB3 : Hid (Below w.heap.size w w3) := HB2.out.trans (hb3.mono HB2.out.size)
 have kr3 := KR.out.below hb3 KR.out.lt
 have KR3 := Lib.hid kr3
 have HRS3 := Lib.hid (HRS2.out.new hb3)
 have d0 : w3.cell? ⟨b4, 0, none⟩ = some (.int .i64 (its.length : Int)) := kr3.cell 0
 have d1 : w3.cell? ⟨b4, 1, none⟩ = some (.slice ca P.length cc) := kr3.cell 1
 have d2 : w3.cell? ⟨b4, 2, none⟩ = some (.slice fa P.length fc) := kr3.cell 2
 clear hb3 HB2 KR HRS2 HC2 kr3
 rcases hor with ⟨hyes, rfl⟩ | ⟨hno, la, lc, rfl, hin⟩
 ·have hcl : ClsIn w3 ca (P.map Prod.snd) := by
   obtain ⟨cs, g1, g2, _⟩ := HRS3.out.crow
   exact ClsK.cls (B := 0) (cap := cc) g2 (ownsRow_base (by simpa using g1) (Nat.zero_le _))
  have HS3 := Lib.hid (HSO.out hyes w3 ca cc hnc hcl)
  clear hcl HSO HKC HIS hyes HRS3 KR3
  go_wp2_with fail
  refine HS3.out.mono ?_
  rintro e w4 ⟨nn, pa, pn, pc, rfl, hb4⟩
  have hba := below_new w4 (.cells #[.bool true, .int .u64 nn, .slice pa pn pc] 71)
  have ka := Blk.new w4 71 #[.bool true, .int .u64 nn, .slice pa pn pc]
  have HB4 : Hid (Below w.heap.size w (w4.alloc (.cells #[.bool true, .int .u64 nn, .slice pa pn pc] 71))) := (HB3.out.trans (hb4.mono HB3.out.size)).trans (hba.mono (Nat.le_trans HB3.out.size hb4.size))
  clear hb4 hba HS3 HB3 d0 d1 d2
  go_upto_region 7 with fail
  generalize w4.alloc (.cells #[.bool true, .int .u64 nn, .slice pa pn pc] 71) = W4 at *
  generalize w4.heap.size = b8 at *
  have HT4 := Lib.hid (HTE.out W4 HB4.out)
  clear HTE
  go_wp2_with fail
  refine HT4.out.mono ?_
  rintro e w5 ⟨rfl, hb5⟩
  have ka5 := ka.below hb5 ka.lt
  have a0 : w5.cell? ⟨b8, 0, none⟩ = some (.bool true) := ka5.cell 0
  have HB5 := Lib.hid (HB4.out.trans (hb5.mono HB4.out.size))
  clear hb5 ka ka5 HB4 HT4
  go_wp2
  go_ret
  exact ⟨rfl, HB5.out⟩
 ·have HI := Lib.hid (HIS.out hno)
  clear HIS HSO HTE hno hnc
  generalize coreL ls its = R at *
  have HIN := Lib.hid hin
  have hRl := HI.out.len
  have HK3 := Lib.hid (HKC.out w3 _ _ R la lc (-1) HRS3.out hin HI.out.lt HI.out.nodup hRl)
  have hno := HI.out.no
  rw [HPE.out] at hno
  rw [hno] at HK3
  clear hin hno
  go_wp2_with fail
  refine HK3.out.mono ?_
  rintro e w4 ⟨rfl, hb4⟩
  have HB4 := Lib.hid (HB3.out.trans (hb4.mono HB3.out.size))
  have KR4 := Lib.hid (KR3.out.below hb4 KR3.out.lt)
  have HRS4 := Lib.hid (HRS3.out.new hb4)
  have HIN4 := Lib.hid (HIN.out.below hb4)
  clear hb4 HK3 HB3 KR3 HRS3 HIN d0 d1 d2
  go_wp2_with fail
  go_loopw [12] (fun iV wr => ∃ i : Nat, i <= R.length /\ iV = .int .i64 (i : Int) /\ Below w4.heap.size w4 wr) (fun iV _ => R.length - (intOf iV).toNat)
  case atStart => exact ⟨0, Nat.zero_le _, rfl, Below.refl _ _⟩
  case round =>
   obtain ⟨i, hil, rfl, hbr⟩ := hrel
   have HBR := Lib.hid hbr
   have HB5 := Lib.hid (HB4.out.trans (hbr.mono HB4.out.size))
   by_cases hlt : i < R.length
   ·have kr5 := KR4.out.below hbr KR4.out.lt
    have d0 : wr.cell? ⟨b4, 0, none⟩ = some (.int .i64 (its.length : Int)) := kr5.cell 0
    have d1 : wr.cell? ⟨b4, 1, none⟩ = some (.slice ca P.length cc) := kr5.cell 1
    have d2 : wr.cell? ⟨b4, 2, none⟩ = some (.slice fa P.length fc) := kr5.cell 2
    have HK5 := Lib.hid (HKC.out wr _ _ R la lc (i : Int) (HRS4.out.new hbr) (HIN4.out.below hbr) HI.out.lt HI.out.nodup hRl)
    have hyes := HI.out.yes i hlt
    rw [HPE.out] at hyes
    rw [hyes] at HK5
    clear hbr kr5 hyes
    go_wp2_with fail
    refine HK5.out.mono ?_
    rintro e w6 ⟨rfl, hb6⟩
    have HB6 : Hid (Below w4.heap.size w4 w6) := HBR.out.trans (hb6.mono HBR.out.size)
    have hin6 := HIN4.out.below HB6.out
    have hii0 : (0 : Int) <= (i : Int) := by omega
    have hii1 : (i : Int) < (R.length : Int) := by omega
    clear hb6 HK5 HBR HB5 d0 d1 d2
    go_upto_region 15 with fail
    go_cut [104] from 76 to 104 (fun c wx => c = .bool false /\ Below w6.heap.size w6 wx)
    case first =>
     by_cases hi0 : i = 0
     ·subst hi0
      clear hin6
      go_quiet (fail)
      go_wp2
      go_meet
      case rel => exact ⟨rfl, below_drewN (Below.refl _ _) _⟩
     ·obtain ⟨j, hj⟩ : ∃ j, j + 1 = i := ⟨i - 1, by omega⟩
      have hasc := HI.out.asc j (by omega)
      rw [hj] at hasc
      obtain ⟨ad, rfl, had, c1⟩ := hin6 i (by rw [natI_len]; exact hlt)
      obtain ⟨ad', e, had', c0⟩ := hin6 j (by rw [natI_len]; omega)
      cases e
      have x1 : (natI R).getD i 0 = ((R.getD i 0 : Nat) : Int) := by simp [natI, List.getD_eq_getElem?_getD, hlt]
      have x0 : (natI R).getD j 0 = ((R.getD j 0 : Nat) : Int) := by simp [natI, List.getD_eq_getElem?_getD, show j < R.length by omega]
      rw [x1] at c1
      rw [x0] at c0
      have hle : ¬ ((R.getD i 0 : Nat) : Int) <= ((R.getD j 0 : Nat) : Int) := by omega
      have hjw : IntKind.i64.wrap ((i : Int) - 1) = (j : Int) := by rw [show (i : Int) - 1 = (j : Int) by omega, IntKind.wrap_i64]; omega
      have hj0 : (0 : Int) <= (j : Int) := by omega
      have hj1 : (j : Int) < (R.length : Int) := by omega
      have hpos : (0 : Int) < (i : Int) := by omega
      have hposN : 0 < i := by omega
      have hleN : ¬ R.getD i 0 <= R.getD j 0 := by omega
      generalize R.getD i 0 = X1 at *
      generalize R.getD j 0 = X0 at *
      obtain ⟨ab, ao, asp⟩ := ad
      clear hin6 x1 x0 hasc had had' hj hi0
      go_quiet (fail)
      go_wp2
      go_meet
      case rel => exact ⟨rfl, below_drewN (Below.refl _ _) _⟩
    case rest =>
     obtain ⟨rfl, hbc⟩ := hcut
     have HBC : Hid (Below w4.heap.size w4 wc) := HB6.out.trans (hbc.mono HB6.out.size)
     clear hbc HB6 hin6
     go_wp2
     go_roundw
     case rel => exact ⟨i + 1, hlt, by go_num, HBC.out⟩
     case measure => simp [intOf]; omega
   ·have hni : ¬ (i : Int) < (R.length : Int) := by omega
    clear hbr HBR
    go_wp2
    go_ret
    exact ⟨rfl, HB5.out⟩
theorem rleast_any (s : ByteArray) (w : World) (hw : Lw w) : Calls Tryz.prog 5 #[.string s] w fun e w' => e = .returned (.bool true) /\ Below w.heap.size w w' := by
 cases hr : readF s 12 with
 | none => exact rleast_none s w hw hr
 | some r =>
  obtain ⟨ls, its⟩ := r
  have hr2 := hr
  unfold readF at hr
  split at hr
  ·cases hr
  ·split at hr
   ·cases hr
   ·rename_i ls' its' hp
    split at hr
    ·cases hr
    ·rename_i hle
     cases hr
     exact rleast_some s w hw ls its hr2 (parseF_ok hp) (by omega) (by omega)
end
section
open Go.ChangeShapes Go.WideShapes Go.ChangeAt Go.RowKit
theorem own : ownKnob Tryz.prog.godebug = none := by kernel_rfl
theorem gErr : Tryz.prog.globalNamed "errors.errorType" = some 1 := by kernel_rfl
theorem rtypeIs : (Tryz.prog.cutTypes.find? (·.1 == "internal/reflectlite.rtype")).map (·.2) = some 303 := by kernel_rfl
theorem oneRow : ((List.range 409).filter fun t => Tryz.prog.rowNamed t [101, 114, 114, 111, 114]) = [36] := by kernel_rfl
theorem typesSize : Tryz.prog.types.size = 409 := by kernel_rfl
theorem glob_of {W : World} {l : List (String × DataW Unit)} (h : laidMetH Tryz.prog l W) (hk : (l.filter fun x => x.1 == "errors.errorType") = [("errors.errorType", Rows.laid_errors_errorType)]) : Glob W := by
 have h2 := h.filter fun x => x.1 == "errors.errorType"
 rw [hk] at h2
 have h3 : laidMet Tryz.prog [] W /\ handlesMet Tryz.prog [("errors.errorType", Rows.laid_errors_errorType)] W := h2
 obtain ⟨name, u, ty, e1, e2, e3, e4, e5⟩ := h3.2 _ (List.mem_singleton.2 rfl)
 have en : name = [101, 114, 114, 111, 114] := (Option.some.inj e1).symm
 subst en
 obtain rfl := Option.some.inj (rtypeIs.symm.trans e2)
 have hm : ty ∈ (List.range 409).filter fun t => Tryz.prog.rowNamed t [101, 114, 114, 111, 114] := List.mem_filter.2 ⟨List.mem_range.2 (by rw [<- typesSize]; exact e3), e4⟩
 rw [oneRow] at hm
 obtain rfl := List.mem_singleton.1 hm
 have hh : typeHandle Tryz.prog 36 = .pointer (some ⟨12, 36, none⟩) := by kernel_rfl
 rw [hh] at e5
 have h6 := World.var?_cell gErr e5 0
 unfold Glob; simpa using h6
def refill (cs : Array Value) : Obj -> Obj
 | .cells _ t frozen => .cells cs t frozen
 | o => o
end
section
open Go.ChangeShapes Go.WideShapes Go.ChangeAt Go.RowKit Go.Shelf
theorem gTab : Tryz.prog.globalNamed "internal/strconv.uint64pow10" = some 7 := by kernel_rfl
theorem gTabType : (Tryz.prog.globals[7]?).map (·.type) = some 364 := by kernel_rfl
theorem cellsTab : Tryz.prog.cellsOf 364 = 20 := by kernel_rfl
theorem cellsTabE : Tryz.prog.cellsOf 318 = 1 := by kernel_rfl
theorem gSyn : Tryz.prog.globalNamed "strconv.ErrSyntax" = some 8 := by kernel_rfl
theorem gSynType : (Tryz.prog.globals[8]?).map (·.type) = some 36 := by kernel_rfl
theorem gRng : Tryz.prog.globalNamed "strconv.ErrRange" = some 9 := by kernel_rfl
theorem gRngType : (Tryz.prog.globals[9]?).map (·.type) = some 36 := by kernel_rfl
theorem cellsEs : Tryz.prog.cellsOf 380 = 1 := by kernel_rfl
theorem cellsStr : Tryz.prog.cellsOf 9 = 1 := by kernel_rfl
theorem starEs : "*" ++ "errors.errorString" = "*errors.errorString" := by decide
theorem rowEs (u : TypeId) (h : Tryz.prog.typeName? 3 u = some "*errors.errorString") : u = 378 :=
 typeName_ptr_named (nm := "errors.errorString") (by rw [starEs]; kernel_rfl) (by kernel_rfl) (by decide) u (by rw [starEs]; exact h)
theorem tab_of {W : World} {l : List (String × DataW Unit)} (h : laidMetH Tryz.prog l W) (hk : (l.filter fun x => x.1 == "internal/strconv.uint64pow10") = [("internal/strconv.uint64pow10", Lib.tabData .u64 Lib.pow10Tab)]) : Lib.TabIs Tryz.prog W "internal/strconv.uint64pow10" .u64 Lib.pow10Tab := by
 have h2 := h.filter fun x => x.1 == "internal/strconv.uint64pow10"
 rw [hk] at h2
 have h3 : laidMet Tryz.prog [("internal/strconv.uint64pow10", Lib.tabData .u64 Lib.pow10Tab)] W := h2
 exact Lib.tabIs_of_head (rest := []) gTab gTabType Tryz.underlying364 Tryz.underlying318 cellsTabE cellsTab h3
theorem syn_of {W : World} {l : List (String × DataW Unit)} (h : laidMetH Tryz.prog l W) (hk : (l.filter fun x => x.1 == "strconv.ErrSyntax") = [("strconv.ErrSyntax", Rows.laid_strconv_ErrSyntax)]) : ∃ ev, W.cell? ⟨8, 0, none⟩ = some ev /\ (ev = .nilIface \/ ∃ te pe, ev = .iface te pe) := by
 have h2 := h.filter fun x => x.1 == "strconv.ErrSyntax"
 rw [hk] at h2
 have h3 : laidMet Tryz.prog [("strconv.ErrSyntax", Rows.laid_strconv_ErrSyntax)] W := h2
 obtain ⟨a0, s0, hv0, -, -, -⟩ := laid_sentinel h3 gSyn gSynType Tryz.underlying36 rowEs Tryz.underlying378 Tryz.underlying380 rfl rfl Tryz.underlying9 cellsEs cellsStr
 exact ⟨_, by have h0 := World.var?_cell gSyn hv0 0; simpa using h0, .inr ⟨_, _, rfl⟩⟩
theorem rng_of {W : World} {l : List (String × DataW Unit)} (h : laidMetH Tryz.prog l W) (hk : (l.filter fun x => x.1 == "strconv.ErrRange") = [("strconv.ErrRange", Rows.laid_strconv_ErrRange)]) : ∃ ev, W.cell? ⟨9, 0, none⟩ = some ev /\ (ev = .nilIface \/ ∃ te pe, ev = .iface te pe) := by
 have h2 := h.filter fun x => x.1 == "strconv.ErrRange"
 rw [hk] at h2
 have h3 : laidMet Tryz.prog [("strconv.ErrRange", Rows.laid_strconv_ErrRange)] W := h2
 obtain ⟨a0, s0, hv0, -, -, -⟩ := laid_sentinel h3 gRng gRngType Tryz.underlying36 rowEs Tryz.underlying378 Tryz.underlying380 rfl rfl Tryz.underlying9 cellsEs cellsStr
 exact ⟨_, by have h0 := World.var?_cell gRng hv0 0; simpa using h0, .inr ⟨_, _, rfl⟩⟩
theorem ml_of {W : World} (h : W.ShapedOpen Tryz.prog) : ∃ n, W.cell? ⟨4, 0, none⟩ = some (.int .i64 n) :=
 cell_of_shapedOpen_int (zero := #[.int .i64 0]) (t := 3) h (of_decide_eq_true (by kernel_rfl)) (by kernel_rfl) rfl (by kernel_rfl) (by kernel_rfl) Tryz.underlying3
theorem big_of {W : World} (h : W.ShapedOpen Tryz.prog) : 12 <= W.heap.size := by
 obtain ⟨o, _, ho, _⟩ := h.2 12 (of_decide_eq_true (by kernel_rfl)) (of_decide_eq_true (by kernel_rfl))
 have := (Array.getElem?_eq_some_iff.1 ho).1
 omega
theorem lb_of {W : World} {l : List (String × DataW Unit)} (h : laidMetH Tryz.prog l W) (hs : W.ShapedOpen Tryz.prog)
  (k1 : (l.filter fun x => x.1 == "internal/strconv.uint64pow10") = [("internal/strconv.uint64pow10", Lib.tabData .u64 Lib.pow10Tab)])
  (k2 : (l.filter fun x => x.1 == "strconv.ErrSyntax") = [("strconv.ErrSyntax", Rows.laid_strconv_ErrSyntax)])
  (k3 : (l.filter fun x => x.1 == "strconv.ErrRange") = [("strconv.ErrRange", Rows.laid_strconv_ErrRange)])
  (k4 : (l.filter fun x => x.1 == "errors.errorType") = [("errors.errorType", Rows.laid_errors_errorType)]) : Lb W :=
 ⟨ml_of hs, syn_of h k2, rng_of h k3, tab_of h k1, glob_of h k4, big_of hs⟩
def cellsIn1 : DataW Unit -> List Value
 | .lit (.int k z) => [.int k z]
 | _ => [undef]
def cellsIn2 : DataW Unit -> List Value
 | .agg l => l.flatMap cellsIn1
 | d => cellsIn1 d
def cellsIn : DataW Unit -> Array Value
 | .agg l => (l.flatMap cellsIn2).toArray
 | _ => #[]
end
end Go.Proofs.YtpmpnbbihmgdpaaGreatDoor
