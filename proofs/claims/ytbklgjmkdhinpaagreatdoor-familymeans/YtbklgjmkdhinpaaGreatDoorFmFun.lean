/- What steps make, one behind the other, all others swept behind each. -/
import Derived.Test.YtbklgjmkdhinpaaGreatDoorCnBaseB
import Derived.Test.YtbklgjmkdhinpaaGreatDoorCnAdd
import Derived.Test.YtbklgjmkdhinpaaGreatDoorFmWays
import Derived.Test.YtbklgjmkdhinpaaGreatDoorArPut
import Derived.Test.YtbklgjmkdhinpaaGreatDoorArGet
import Derived.Test.YtbklgjmkdhinpaaGreatDoorFmMap
set_option maxHeartbeats 2000000
set_option maxRecDepth 100000
namespace Go.Proofs.YtbklgjmkdhinpaaGreatDoor.Bd
open Go.RowKit Num Go.Sort
theorem cmp_any (va vb : Value) (a b : List Nat) (w : World) (ha : Dig .u64 w va a) (hb : Dig .u64 w vb b) (na : ∀ i, dig a i < 1000000000) (nb : ∀ i, dig b i < 1000000000) (la : a.length <= 10000) (lb : b.length <= 10000) :
  Calls Tryz.prog 87 #[.agg #[va], .agg #[vb]] w fun e w' => e = .returned (.int .i64 (cmpN (val 1000000000 a) (val 1000000000 b))) /\ Below w.heap.size w w' := by
 obtain ⟨aa, ca, eva, hca, hcella⟩ := id ha
 obtain ⟨ab, cb, evb, hcb, hcellb⟩ := id hb
 subst eva evb
 clear hcella hcellb hca hcb
 obtain ⟨n, hn, hna, hnb, hln⟩ : ∃ n : Nat, max (a.length : Int) (b.length : Int) = (n : Int) /\ a.length <= n /\ b.length <= n /\ n <= 10000 := ⟨max a.length b.length, by omega, by omega, by omega, by omega⟩
 go_enter Tryz.func87, Tryz.ntmps87
 go_wp2_with fail
 clear hn
 go_loopw [17] (fun i wr => ∃ k : Nat, k <= n /\ i = .int .i64 k /\ (∀ j, n - k <= j -> j < n -> dig a j = dig b j) /\ Below (w.heap.size + 2) ((w.alloc (.cells #[.slice aa a.length ca] 38)).alloc (.cells #[.slice ab b.length cb] 38)) wr)
   (fun i _ => n - (intOf i).toNat)
 case atStart => exact ⟨0, Nat.zero_le _, rfl, fun j h1 h2 => by omega, Below.refl _ _⟩
 case round =>
  obtain ⟨k, hk, rfl, heq, hbel⟩ := hrel
  have HE : Hid (∀ j, n - k <= j -> j < n -> dig a j = dig b j) := heq
  clear heq
  have hbw : Below w.heap.size w wr := (((Below.refl _ _).alloc (Nat.le_refl _) _).alloc (by simp) _).trans (hbel.mono (by omega))
  by_cases hlt : k < n
  ·have c0 : wr.cell? ⟨w.heap.size, 0, none⟩ = some (.slice aa a.length ca) := (hbel.cell (p := ⟨w.heap.size, 0, none⟩) (by simp)).trans (by simp)
   have c1 : wr.cell? ⟨w.heap.size + 1, 0, none⟩ = some (.slice ab b.length cb) := (hbel.cell (p := ⟨w.heap.size + 1, 0, none⟩) (by simp)).trans (by simp)
   have k0 := cell_regrown c0
   have k1 := cell_regrown c1
   have cA : ∀ d os, Calls Tryz.prog 99 #[.agg #[.slice aa a.length ca], .int .i64 ((n : Int) - 1 - k)] (grow (redrawn wr d) os) fun e w'' => e = .returned (.int .u64 ((dig a (n - 1 - k) : Nat) : Int)) /\ ∃ p : Regrown, w'' = grow (redrawn wr p.d) p.os := fun d os => by
    have := digit_int _ a ((n : Int) - 1 - k) (grow (redrawn wr d) os) (ha.below (hbw.trans ((below_regrown wr d os).mono hbw.size))) (by omega) (by omega) (by omega)
    rw [show ((n : Int) - 1 - k).toNat = n - 1 - k by omega] at this
    exact Calls.regrown_of this
   have cB : ∀ d os, Calls Tryz.prog 99 #[.agg #[.slice ab b.length cb], .int .i64 ((n : Int) - 1 - k)] (grow (redrawn wr d) os) fun e w'' => e = .returned (.int .u64 ((dig b (n - 1 - k) : Nat) : Int)) /\ ∃ p : Regrown, w'' = grow (redrawn wr p.d) p.os := fun d os => by
    have := digit_int _ b ((n : Int) - 1 - k) (grow (redrawn wr d) os) (hb.below (hbw.trans ((below_regrown wr d os).mono hbw.size))) (by omega) (by omega) (by omega)
    rw [show ((n : Int) - 1 - k).toNat = n - 1 - k by omega] at this
    exact Calls.regrown_of this
   have hx := na (n - 1 - k)
   have hy := nb (n - 1 - k)
   have hlt' : (k : Int) < n := by omega
   have e1 : IntKind.i64.wrap ((n : Int) - 1) = (n : Int) - 1 := w64 (by omega) (by omega)
   have e2 : IntKind.i64.wrap ((n : Int) - 1 - k) = (n : Int) - 1 - k := w64 (by omega) (by omega)
   go_wp2_with fail
   refine wp_region_quiet_below mixed (by kernel_rfl) ?_
   repeat (quiet_step (first | (go_at_call_of 99 aa; exact cA _ _) | (go_at_call_of 99 ab; exact cB _ _)))
   refine wpQuiet_nil ?_
   intro _ hw'
   obtain ⟨⟨dq, osq⟩, hw''⟩ := hw'
   subst hw''
   clear cA cB k0 k1
   have hgr : Below w.heap.size w (grow (redrawn wr dq) osq) := hbw.trans ((below_regrown wr dq osq).mono hbw.size)
   generalize hdx : dig a (n - 1 - k) = x at *
   generalize hdy : dig b (n - 1 - k) = y at *
   have HX : Hid (dig a (n - 1 - k) = x) := hdx
   have HY : Hid (dig b (n - 1 - k) = y) := hdy
   clear hdx hdy
   go_wp2
   ·go_ret
    refine ⟨ret_int ?_, hgr⟩
    have hxy : x < y := by assumption
    exact (cmpN_lt (cmp_lt na hna hnb (t := n - 1 - k) (by omega) (by rw [HX.out, HY.out]; exact hxy) (fun i h1 h2 => HE.out i (by omega) h2))).symm
   ·go_ret
    refine ⟨ret_int ?_, hgr⟩
    have hxy : y < x := by assumption
    exact (cmpN_gt (cmp_lt nb hnb hna (t := n - 1 - k) (by omega) (by rw [HX.out, HY.out]; exact hxy) (fun i h1 h2 => (HE.out i (by omega) h2).symm))).symm
   ·go_roundw
    case rel =>
     refine ⟨k + 1, by omega, by go_num, fun j h1 h2 => ?_, hbel.trans ((below_regrown wr dq osq).mono (by have := hbel.size; simpa using this))⟩
     by_cases hj : j = n - 1 - k
     ·rw [hj, HX.out, HY.out]; omega
     ·exact HE.out j (by omega) h2
    case measure => simp [intOf]; omega
  ·obtain rfl : k = n := by omega
   go_wp2
   go_ret
   refine ⟨ret_int ?_, hbw⟩
   rw [cmp_eq hna hnb (fun i h => HE.out i (by omega) h), cmpN_eq]
end Go.Proofs.YtbklgjmkdhinpaaGreatDoor.Bd
namespace Go.Proofs.YtbklgjmkdhinpaaGreatDoor.Bd
open Go.RowKit Num Go.Sort
theorem fits_cmp {v v1 : Value} {a ds1 : List Nat} {w W : World} (ha : Dig .u64 w v a) (na : ∀ i, dig a i < 1000000000) (la : a.length <= 10000) (hd1 : Dig .u64 W v1 ds1) (hn1 : Norm 1000000000 ds1) (hv1 : val 1000000000 ds1 = 9223372036854775807) (hb : Below w.heap.size w W) :
  Calls Tryz.prog 87 #[.agg #[v], .agg #[v1]] W fun e w' => e = .returned (.int .i64 (cmpN (val 1000000000 a) 9223372036854775807)) /\ Below W.heap.size W w' := by
 have h3 : ds1.length <= 3 := norm_len (by omega) hn1 (by rw [hv1]; omega)
 have := cmp_any v v1 a ds1 W (ha.below hb) hd1 na hn1.small la (by omega)
 rwa [hv1] at this
theorem fits_any (v : Value) (a : List Nat) (w : World) (ha : Dig .u64 w v a) (na : ∀ i, dig a i < 1000000000) (la : a.length <= 10000) :
  Calls Tryz.prog 56 #[.agg #[v]] w fun e w' => (val 1000000000 a <= 9223372036854775807 -> e = .returned (.tuple #[.int .i64 (val 1000000000 a : Nat), .bool true])) /\ (9223372036854775807 < val 1000000000 a -> e = .returned (.tuple #[.int .i64 0, .bool false])) /\ Below w.heap.size w w' := by
 obtain ⟨aa, ca, eva, hca, hcella⟩ := id ha
 subst eva
 go_enter Tryz.func56, Tryz.ntmps56
 go_upto_region 1 with fail
 go_cut [10] (fun c wx => c = .bool (decide (9223372036854775807 < val 1000000000 a)) /\ Below (w.heap.size + 1) (w.alloc (.cells #[.slice aa a.length ca] 38)) wx)
 case first =>
  go_region_with (first
   | (go_at_call 60; refine (of_any _ _ (by omega) (by omega)).mono ?_; rintro e w1 ⟨v1, rfl, ds1, hd1, hn1, hv1, hb1⟩; have hbw : Below w.heap.size w w1 := (((Below.refl _ _).alloc (Nat.le_refl _) _).drew).trans (hb1.mono (by simp)); have hc1 : w1.cell? ⟨w.heap.size, 0, none⟩ = some (.slice aa a.length ca) := (hb1.cell (p := ⟨w.heap.size, 0, none⟩) (by simp)).trans (by simp))
   | (go_at_call 87; refine (fits_cmp ha na la hd1 hn1 hv1 hbw).mono ?_; rintro e w2 ⟨rfl, hb2⟩; have hbx : Below (w.heap.size + 1) (w.alloc (.cells #[.slice aa a.length ca] 38)) w2 := ((Below.refl _ _).drew.trans (hb1.mono (by simp))).trans (hb2.mono (by have := hb1.size; simp at this; omega))))
  all_goals
   go_wp2_with fail
   go_meet
   case rel => exact ⟨congrArg Value.bool (cmpN_pos _ _), hbx⟩
 case rest =>
  obtain ⟨rfl, hbel⟩ := hcut
  have hbw : Below w.heap.size w wc := ((Below.refl _ _).alloc (Nat.le_refl _) _).trans (hbel.mono (by omega))
  by_cases hbig : 9223372036854775807 < val 1000000000 a
  ·have hd : decide (9223372036854775807 < val 1000000000 a) = true := by simp [hbig]
   rw [hd]
   have HB : Hid (9223372036854775807 < val 1000000000 a) := hbig
   clear hd hbig
   go_wp2
   go_ret2
   exact ⟨fun h => by have := HB.out; omega, fun _ => rfl, hbw⟩
  ·have hd : decide (9223372036854775807 < val 1000000000 a) = false := by simp [hbig]
   rw [hd]
   have HB : Hid (val 1000000000 a <= 9223372036854775807) := by show _ <= _; omega
   clear hd hbig
   have c0 : wc.cell? ⟨w.heap.size, 0, none⟩ = some (.slice aa a.length ca) := (hbel.cell (p := ⟨w.heap.size, 0, none⟩) (by simp)).trans (by simp)
   go_wp2_with fail
   go_loop [5, 15] (fun o i => ∃ k t : Nat, k <= a.length /\ i = .int .i64 k /\ o = .int .i64 t /\ val 1000000000 a = t * 1000000000 ^ (a.length - k) + S 1000000000 (dig a) (a.length - k)) (fun _ i => a.length - (intOf i).toNat)
   case atStart => exact ⟨0, 0, Nat.zero_le _, rfl, rfl, by simp [val]⟩
   case round =>
    obtain ⟨k, t, hk, rfl, rfl, hval⟩ := hrel
    by_cases hlt : k < a.length
    ·obtain ⟨b, off, haa, hbb, hcl⟩ := hcella (a.length - 1 - k) (by omega)
     subst haa
     have hcl' : wc.cell? ⟨b, off + (a.length - 1 - k), none⟩ = some (.int .u64 ((dig a (a.length - 1 - k) : Nat) : Int)) := (hbw.cell (p := ⟨b, off + (a.length - 1 - k), none⟩) hbb).trans hcl
     have hval2 := hval
     rw [show a.length - k = (a.length - 1 - k) + 1 by omega] at hval2
     have hst := fits_step hval2
     have hle := fits_le (by omega) hst
     have HV := HB.out
     have hdd := na (a.length - 1 - k)
     have HS : Hid (val 1000000000 a = (t * 1000000000 + dig a (a.length - 1 - k)) * 1000000000 ^ (a.length - 1 - k) + S 1000000000 (dig a) (a.length - 1 - k)) := hst
     have hle2 : t * 1000000000 + dig a (a.length - 1 - k) <= 9223372036854775807 := by omega
     clear hst hval2 hval hcl hle HV
     have e1 : ((a.length : Int) - 1 - k).toNat = a.length - 1 - k := by omega
     generalize hD : dig a (a.length - 1 - k) = D at *
     have HD : Hid (dig a (a.length - 1 - k) = D) := hD
     clear hD
     go_wp2
     go_round
     case rel =>
      refine ⟨k + 1, t * 1000000000 + D, by omega, by go_num, by go_num, ?_⟩
      rw [show a.length - (k + 1) = a.length - 1 - k by omega]
      exact HS.out
     case measure => simp [intOf]; omega
    ·obtain rfl : k = a.length := by omega
     have HT : Hid (val 1000000000 a = t) := by show _ = _; simpa [S] using hval
     clear hval
     go_wp2
     go_ret2
     refine ⟨fun _ => ?_, fun h => by have := HB.out; omega, hbw⟩
     rw [HT.out]
     rfl
end Go.Proofs.YtbklgjmkdhinpaaGreatDoor.Bd
namespace Go.Proofs.YtbklgjmkdhinpaaGreatDoor.Fm
open Go.RowKit Go.Maps Go.Proofs.YtbklgjmkdhinpaaGreatDoor.Bd Go.Proofs.YtbklgjmkdhinpaaGreatDoor.Bd.Num
theorem ints1 (w : World) (x : Int) (hx : I64 x) : IntsAt (w.alloc (.cells #[.int .i64 x] 3)) w.heap.size [x] :=
 ⟨by simp, fun i hi => by simp at hi; subst hi; simp, fun y hy => by rw [List.mem_singleton] at hy; subst hy; exact hx⟩
section
variable {B s b : Nat} {O : Nat -> Prop} {vars room : Nat} {ns : List Nd}
theorem count_any (w : World) (hF : FamAt B w s b O vars room ns) (h : Int) (hh : hasB ns h = true) :
  Calls Tryz.prog 8 #[.pointer (some ⟨s, 0, none⟩), .int .i64 h] w fun e w' => ∃ v, e = .returned (.tuple #[v, .nilIface]) /\ NatAt w' v (nsN ns h) /\ Below w.heap.size w w' := by
 have hS := hF.space
 have hg := hF.good
 have hlen := hF.len
 have hl : ns.length <= 90000 := by omega
 have hv := hF.v24
 have hi := has_i64 hh (by omega)
 have hb1 := below_new w (.cells #[.slice none 0 0] 38)
 have s1 : (w.alloc (.cells #[.slice none 0 0] 38)).heap.size = w.heap.size + 1 := by simp
 have HP := present_any (cp := 1) ((hS.new hb1).new (below_new (w.alloc (.cells #[.slice none 0 0] 38)) (.cells #[.int .i64 h] 3))) (by omega) (w.alloc (.cells #[.slice none 0 0] 38)).heap.size [h] (ints1 (w.alloc (.cells #[.slice none 0 0] 38)) h hi) (by simp) (fun y hy => by rw [List.mem_singleton] at hy; subst hy; exact hh)
 rw [show [h].length = 1 from rfl, s1] at HP
 have HPR := Lib.hid HP
 have hb2 := hb1.alloc hb1.size (.cells #[.int .i64 h] 3)
 have s2 : ((w.alloc (.cells #[.slice none 0 0] 38)).alloc (.cells #[.int .i64 h] 3)).heap.size = w.heap.size + 1 + 1 := by rw [World.size_alloc, s1]
 have hb3 := hb2.alloc hb2.size (.map #[] 0)
 have hown := World.ownsMap_made ((w.alloc (.cells #[.slice none 0 0] 38)).alloc (.cells #[.int .i64 h] 3)) Tryz.prog 3 natR
 rw [s2] at hown
 have hD : DoneN (((w.alloc (.cells #[.slice none 0 0] 38)).alloc (.cells #[.int .i64 h] 3)).alloc (.map #[] 0)) (w.heap.size + 1 + 1) vars ns [] := ⟨⟨_, hown, Rep.empty⟩, (fun p hp => by cases hp), (fun p hp => by cases hp)⟩
 have hslt := hS.slt
 have HWA := ways_any (B := B) (s := s) (b := b) (dk := w.heap.size + 1 + 1) (O := O) (vars := vars) (room := (room : Int)) (ns := ns) hg hl hv (fun ho => by have := (hS.own _ ho).2; omega) (by omega) 24 h [] _ (hS.new hb3) hD hh (by have := (topOf_le hg.ranked h).1; omega)
 have HWY : Hid (Calls Tryz.prog 30 #[.pointer (some ⟨s, 0, none⟩), .int .i64 h, .map (some (w.heap.size + 1 + 1))] (((w.alloc (.cells #[.slice none 0 0] 38)).alloc (.cells #[.int .i64 h] 3)).alloc (.map #[] 0)) (CntOut (w.heap.size + 1 + 1) vars ns (nsN ns h) (((w.alloc (.cells #[.slice none 0 0] 38)).alloc (.cells #[.int .i64 h] 3)).alloc (.map #[] 0)))) := HWA
 have HBX : Hid (BoxAt (((w.alloc (.cells #[.slice none 0 0] 38)).alloc (.cells #[.int .i64 h] 3)).alloc (.map #[] 0)) w.heap.size) := ((boxAt_new w).new (below_new _ _)).new (below_new _ _)
 have HB3 := Lib.hid hb3
 have hmm := @run_makeMap Tryz.prog
 clear HP HWA hF hS hg hh hb1 hb2 hb3 hown hD
 generalize nsN ns h = m at *
 go_enter Tryz.func8, Tryz.ntmps8
 go_wp2_with fail
 refine HPR.out.mono ?_
 rintro e w1 ⟨rfl, rfl⟩
 clear HPR
 go_wp2_with fail
 refine HWY.out.mono ?_
 rintro e w4 ⟨v4, L4, rfl, hn, hD4, hk⟩
 generalize (((w.alloc (.cells #[.slice none 0 0] 38)).alloc (.cells #[.int .i64 h] 3)).alloc (.map #[] 0)) = W3 at *
 obtain ⟨x, rfl, hx⟩ := hn
 obtain ⟨xa, xn, xc⟩ := x
 have hn : NatAt w4 (NV.val ⟨xa, xn, xc⟩) m := ⟨_, rfl, hx⟩
 have hbx := HBX.out.kept hk (show w.heap.size ≠ w.heap.size + 1 + 1 by omega)
 have bc := hbx.c
 have bf := hbx.f
 have hcs : (w4.setCell ⟨w.heap.size, 0, none⟩ (.slice xa xn xc)).cell? ⟨w.heap.size, 0, none⟩ = some (.slice xa xn xc) := World.cell?_setCell_same _ _ _ bc
 have hb4 : Below w.heap.size w (w4.setCell ⟨w.heap.size, 0, none⟩ (.slice xa xn xc)) := (HB3.out.trans (hk.below HB3.out.size (fun j e => by omega))).setCell (Nat.le_refl _) _
 have HFIN : Hid (∃ v, Ending.returned (.tuple #[.agg #[.slice xa xn xc], .nilIface]) = .returned (.tuple #[v, .nilIface]) /\ NatAt (w4.setCell ⟨w.heap.size, 0, none⟩ (.slice xa xn xc)) v m /\ Below w.heap.size w (w4.setCell ⟨w.heap.size, 0, none⟩ (.slice xa xn xc))) := ⟨_, rfl, hn.box hbx.no _, hb4⟩
 clear hn hx hD4 hk hbx hb4 HWY HBX HB3
 unfold NV.val
 go_wp2
 refine bodyPost_ret (v := .tuple #[.agg #[.slice xa xn xc], .nilIface]) (by simp [results, Tryz.results8, go_sem, hcs]) rfl HFIN.out
theorem num_fits {w : World} {r : Value} {m : Nat} (h : NatAt w r m) (hm : m <= 100000000) : Calls Tryz.prog 56 #[r] w fun e w' => e = .returned (.tuple #[.int .i64 (m : Int), .bool true]) /\ Below w.heap.size w w' := by
 obtain ⟨s1, d1, rfl, g1, n1, v1, k1⟩ := h.open hm
 refine (fits_any s1 d1 w g1 n1.small (by omega)).mono ?_
 rintro e w' ⟨h1, -, hb⟩
 exact ⟨by rw [h1 (by rw [v1]; omega), v1], hb⟩
theorem listed_yes (w : World) (hF : FamAt B w s b O vars room ns) (h : Int) (hh : hasB ns h = true) (most : Int) (hm : (nsN ns h : Int) <= most) :
  Calls Tryz.prog 26 #[.pointer (some ⟨s, 0, none⟩), .int .i64 h, .int .i64 most] w fun e w' => e = .returned .nilIface /\ Below w.heap.size w w' := by
 have HC := Lib.hid (count_any w hF h hh)
 have hle := nsN_le ns h
 clear hF hh
 generalize nsN ns h = m at *
 go_enter Tryz.func26, Tryz.ntmps26
 go_wp2_with fail
 refine HC.out.mono ?_
 rintro e w1 ⟨v, rfl, hv, hb1⟩
 obtain ⟨⟨xa, xn, xc⟩, rfl, hx⟩ := hv
 have hv : NatAt w1 (.agg #[.slice xa xn xc]) m := ⟨⟨xa, xn, xc⟩, rfl, hx⟩
 have hb2 := below_new w1 (.cells #[.slice xa xn xc] 38)
 have bc : (w1.alloc (.cells #[.slice xa xn xc] 38)).cell? ⟨w1.heap.size, 0, none⟩ = some (.slice xa xn xc) := by simp
 have HFT := Lib.hid (num_fits (hv.new hb2) (by omega))
 have HB := Lib.hid (hb1.trans (hb2.mono hb1.size))
 clear hv hx hb1 hb2 HC
 unfold NV.val
 go_wp2_with fail
 refine HFT.out.mono ?_
 rintro e w2 ⟨rfl, hb3⟩
 have HB2 := Lib.hid (HB.out.trans (hb3.mono HB.out.size))
 have hlt : ¬ (m : Int) > most := by omega
 clear hb3 HFT HB
 go_wp2
 go_ret
 exact ⟨rfl, HB2.out⟩
end
end Go.Proofs.YtbklgjmkdhinpaaGreatDoor.Fm
namespace Go.Proofs.YtbklgjmkdhinpaaGreatDoor.Bd
open Go.RowKit Go.Maps
def pickV (x : Int) (n : Nat) : Nat := ((x % 18446744073709551616).toNat) % n
theorem pickV_lt (x : Int) {n : Nat} (h : 0 < n) : pickV x n < n := Nat.mod_lt _ h
end Go.Proofs.YtbklgjmkdhinpaaGreatDoor.Bd
namespace Go.Proofs.YtbklgjmkdhinpaaGreatDoor.Bd
structure Quad where
 a : Int
 b : Int
 c : Int
 d : Int
 deriving Inhabited
end Go.Proofs.YtbklgjmkdhinpaaGreatDoor.Bd
namespace Go.Proofs.YtbklgjmkdhinpaaGreatDoor.Fm
open Go.RowKit Go.Maps Go.Proofs.YtbklgjmkdhinpaaGreatDoor.Bd
section
variable {ns : List Nd} {vars : Nat}
theorem swept_good (hg : Good vars ns) (fs : List Int) : Good vars (swept ns (marksOf ns fs)) := by
 have hr := swept_ranked_any hg.ranked fs
 generalize marksOf ns fs = M at *
 have key : ∀ j, j < ns.length -> mk M j = true /\ nd (swept ns M) j = nd ns j \/ nd (swept ns M) j = ⟨24, 0, 0⟩ := fun j hj => by
  rw [swept_at ns M j hj]
  by_cases h : mk M j = true
  ·exact .inl ⟨h, by rw [if_pos h]⟩
  ·exact .inr (by rw [if_neg h])
 refine ⟨hr, fun i j hi hj hv e => ?_, fun i hi hv => ?_, fun i hi hv => ?_, fun i hi hv => ?_⟩
 ·rw [swept_length] at hi hj
  rcases key i hi with ⟨-, e1⟩ | e1 <;> rw [e1] at hv e
  ·rcases key j hj with ⟨-, e2⟩ | e2 <;> rw [e2] at e
   ·exact hg.once i j hi hj hv e
   ·rw [e] at hv; simp at hv
  ·simp at hv
 ·rw [swept_length] at hi
  rcases key i hi with ⟨-, e1⟩ | e1 <;> rw [e1] at hv ⊢
  ·exact hg.red i hi hv
  ·simp at hv
 ·rw [swept_length] at hi
  rcases key i hi with ⟨-, e1⟩ | e1 <;> rw [e1] at hv ⊢
  ·exact hg.vars i hi hv
  ·simp at hv
 ·rw [swept_length] at hi
  rcases key i hi with ⟨-, e1⟩ | e1 <;> rw [e1] at hv ⊢
  exact hg.free i hi hv
theorem inF_swept (hr : Ranked ns) (fs : List Int) : ∀ (d : Nat) (h : Int) (x : Nat), MarkedOr ns (marksOf ns fs) h -> inF d (swept ns (marksOf ns fs)) h x = inF d ns h x
 | 0, _, _, _ => rfl
 | d + 1, h, x, hm => by
  obtain ⟨e1, e2⟩ := swept_node hm
  unfold inF
  rw [e1]
  by_cases ht : topOf ns h = 24
  ·rw [if_pos ht, if_pos ht]
  ·have hk := marksOf_closed hr fs (pl h) (node_at ht).2.1 (hm.resolve_left ht)
   rw [if_neg ht, if_neg ht, e2 ht, inF_swept hr fs d _ _ hk.1, inF_swept hr fs d _ _ hk.2]
theorem swept_kept (hg : Good vars ns) {fs : List Int} {h : Int} (hh : h ∈ fs) (hb : hasB ns h = true) : hasB (swept ns (marksOf ns fs)) h = true /\ ∀ x, In (swept ns (marksOf ns fs)) h x ↔ In ns h x := by
 have hm := marksOf_in hg.ranked fs h hh
 refine ⟨?_, fun x => by unfold In inB; rw [inF_swept hg.ranked fs 24 h x hm]⟩
 unfold hasB; rw [(swept_node hm).1]; exact hb
theorem swept_cntT (hv : vars <= 24) (ns : List Nd) (M : List Bool) : cntT vars (swept ns M) <= cntT vars ns := by
 unfold cntT
 rw [filter_range, filter_range, swept_length]
 have key : ∀ (l : List Nat), (∀ i ∈ l, i < ns.length) -> (l.filter fun i => lowB vars (nd (swept ns M) i)).length <= (l.filter fun i => lowB vars (nd ns i)).length := by
  intro l
  induction l with
  | nil => intro _; simp
  | cons a l ih =>
   intro hl
   have ih' := ih (fun i hi => hl i (List.mem_cons_of_mem _ hi))
   have ha := hl a (List.mem_cons_self ..)
   simp only [List.filter_cons]
   rw [swept_at ns M a ha]
   by_cases hm : mk M a = true
   ·rw [if_pos hm]; split <;> simp <;> omega
   ·rw [if_neg hm]
    have : lowB vars ⟨24, 0, 0⟩ = false := by simp [lowB]; omega
    rw [this]; simp only [Bool.false_eq_true, if_false]
    split
    ·simp only [List.length_cons]; omega
    ·exact ih'
 exact key _ (fun i hi => List.mem_range.1 hi)
end
def alAt (al : List Int) (x : Int) : Int := al.getD (pickV x al.length) 0
abbrev Fam : Type := Nat -> Prop
def tAt (T : List Fam) (x : Int) : Fam := T.getD (pickV x T.length) (fun _ => False)
def setN (vars : Nat) (x : Int) : Nat := (x % 18446744073709551616).toNat % 2 ^ vars
def stepT (vars : Nat) (T : List Fam) (q : Quad) : Fam :=
 match pickV q.a 7 with
 | 0 => fun y => y = setN vars q.b
 | 1 => opP .or (tAt T q.b) (tAt T q.c)
 | 2 => opP .and (tAt T q.b) (tAt T q.c)
 | 3 => opP .less (tAt T q.b) (tAt T q.c)
 | 4 => opP .join (tAt T q.b) (tAt T q.c)
 | 5 => opP .without (tAt T q.b) (tAt T q.c)
 | _ => opP .least (tAt T q.b) (fun _ => False)
structure Sems (vars : Nat) (ns : List Nd) (al : List Int) (T : List Fam) : Prop where
 has : ∀ h ∈ al, hasB ns h = true
 len : al.length = T.length
 mem : ∀ i (h1 : i < al.length) (h2 : i < T.length), ∀ x, In ns al[i] x ↔ T[i] x
section
variable {vars : Nat} {ns : List Nd} {al : List Int} {T : List Fam}
theorem Sems.at (h : Sems vars ns al T) (hne : 0 < al.length) (x : Int) : hasB ns (alAt al x) = true /\ ∀ y, In ns (alAt al x) y ↔ tAt T x y := by
 have hl := pickV_lt x hne
 have e1 : alAt al x = al[pickV x al.length] := by unfold alAt; simp [List.getD_eq_getElem?_getD, List.getElem?_eq_getElem hl]
 have e2 : tAt T x = T[pickV x T.length]'(by rw [<- h.len]; exact hl) := by unfold tAt; simp [List.getD_eq_getElem?_getD, List.getElem?_eq_getElem (show pickV x T.length < T.length by rw [<- h.len]; exact hl)]
 refine ⟨by rw [e1]; exact h.has _ (List.getElem_mem hl), fun y => ?_⟩
 have h0 := h.mem (pickV x al.length) hl (by rw [<- h.len]; exact hl) y
 have e3 : T[pickV x al.length]'(by rw [<- h.len]; exact hl) = T[pickV x T.length]'(by rw [<- h.len]; exact hl) := getElem_congr_idx (by rw [h.len])
 rw [e1, h0, e2, e3]
def famT (vars : Nat) (T : List Fam) (qs : List Quad) : List Fam := qs.foldl (fun T q => T ++ [stepT vars T q]) T
theorem famT_snoc (vars : Nat) (T : List Fam) (qs : List Quad) (q : Quad) : famT vars T (qs ++ [q]) = famT vars T qs ++ [stepT vars (famT vars T qs) q] := by simp [famT]
theorem famT_len (vars : Nat) : ∀ (qs : List Quad) (T : List Fam), (famT vars T qs).length = T.length + qs.length
 | [], T => by simp [famT]
 | q :: qs, T => by
  have := famT_len vars qs (T ++ [stepT vars T q])
  simp only [famT, List.foldl_cons] at this ⊢
  rw [this]; simp; omega
theorem Sems.swept (hg : Good vars ns) (h : Sems vars ns al T) : Sems vars (Go.Proofs.YtbklgjmkdhinpaaGreatDoor.Bd.swept ns (marksOf ns al)) al T :=
 ⟨fun x hx => (swept_kept hg hx (h.has x hx)).1, h.len, fun i h1 h2 x => by rw [(swept_kept hg (List.getElem_mem h1) (h.has _ (List.getElem_mem h1))).2 x]; exact h.mem i h1 h2 x⟩
theorem Sems.more {ns' : List Nd} {x : Int} {g : Fam} (hr : Ranked ns) (h : Sems vars ns al T) (he : Ext ns ns') (hx : hasB ns' x = true) (hs : ∀ y, In ns' x y ↔ g y) : Sems vars ns' (al ++ [x]) (T ++ [g]) := by
 refine ⟨fun y hy => ?_, by simp [h.len], fun i h1 h2 y => ?_⟩
 ·rcases List.mem_append.1 hy with hy | hy
  ·exact he.has y (h.has y hy)
  ·rw [List.mem_singleton] at hy; subst hy; exact hx
 ·by_cases hi : i < al.length
  ·rw [List.getElem_append_left hi, List.getElem_append_left (by rw [<- h.len]; exact hi), in_ext hr he (h.has _ (List.getElem_mem hi))]
   exact h.mem i hi (by rw [<- h.len]; exact hi) y
  ·have e : i = al.length := by simp at h1; omega
   subst e
   have e2 : (T ++ [g])[al.length]'h2 = g := by simp [h.len]
   rw [e2]; simp [hs y]
theorem Sems.ext {ns' : List Nd} (hr : Ranked ns) (h : Sems vars ns al T) (he : Ext ns ns') : Sems vars ns' al T :=
 ⟨fun y hy => he.has y (h.has y hy), h.len, fun i h1 h2 y => by rw [in_ext hr he (h.has _ (List.getElem_mem h1))]; exact h.mem i h1 h2 y⟩
theorem sems_start (ns : List Nd) : Sems vars ns [0, 1] [fun _ => False, fun y => y = 0] := by
 refine ⟨fun h hh => ?_, rfl, fun i h1 h2 y => ?_⟩
 ·simp at hh; rcases hh with rfl | rfl
  ·exact end_has0 ns
  ·exact end_has1 ns
 ·simp at h1
  rcases (by omega : i = 0 \/ i = 1) with rfl | rfl
  ·exact ⟨fun h => in_zero y h, fun h => h.elim⟩
  ·exact in_one y
end
end Go.Proofs.YtbklgjmkdhinpaaGreatDoor.Fm
