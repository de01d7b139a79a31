/- The contract of Cmp. -/
import Derived.Test.YtcjjekhecjmaeaaGreatDoorImDig
import Derived.Test.YtcjjekhecjmaeaaGreatDoorImForm
import Derived.Test.YtcjjekhecjmaeaaGreatDoorErErrs
set_option maxHeartbeats 1000000
set_option maxRecDepth 100000
namespace Go.Proofs.YtcjjekhecjmaeaaGreatDoor
section
open Go.RowKit Num Go.Sort Go.PlainAid
theorem parse_form (s : ByteArray) (w : World) (hm : s.size <= 100000) (hno : ¬ OkText s) :
  Calls Tryz.prog 160 #[.string s] w fun e w' => e = .returned (.tuple #[.agg #[.slice none 0 0], .iface 54 (.int .i64 3)]) /\ Below w.heap.size w w' := by
 have H := formed_any s (w.alloc (.cells #[.slice none 0 0] 30)) hm
 go_enter Tryz.func160, Tryz.ntmps160
 go_wp2_with fail
 refine H.mono ?_
 rintro e w1 ⟨-, h2, rfl⟩
 have he := h2 hno
 subst he
 clear H h2 hno
 go_wp2
 refine bodyPost_ret (v := .tuple #[.agg #[.slice none 0 0], .iface 54 (.int .i64 3)]) (by simp [results, Tryz.results160, go_sem]) rfl ?_
 exact ⟨rfl, (Below.refl _ _).alloc (Nat.le_refl _) _⟩
theorem parse_limit (s : ByteArray) (w : World) (hm : s.size <= 100000) (hok : OkText s) (hl : 100 < s.size) :
  Calls Tryz.prog 160 #[.string s] w fun e w' => e = .returned (.tuple #[.agg #[.slice none 0 0], .iface 54 (.int .i64 4)]) /\ Below w.heap.size w w' := by
 have H := formed_any s (w.alloc (.cells #[.slice none 0 0] 30)) hm
 go_enter Tryz.func160, Tryz.ntmps160
 go_wp2_with fail
 refine H.mono ?_
 rintro e w1 ⟨h2, -, rfl⟩
 have he := h2 hok
 subst he
 clear H h2 hok
 go_wp2
 refine bodyPost_ret (v := .tuple #[.agg #[.slice none 0 0], .iface 54 (.int .i64 4)]) (by simp [results, Tryz.results160, go_sem]) rfl ?_
 exact ⟨rfl, (Below.refl _ _).alloc (Nat.le_refl _) _⟩
theorem parse_ok (s : ByteArray) (w : World) (hm : s.size <= 100) (hok : OkText s) :
  Calls Tryz.prog 160 #[.string s] w fun e w' => ∃ v', e = .returned (.tuple #[.agg #[v'], .nilIface]) /\ ∃ ds', Dig .u64 w' v' ds' /\ Norm 1000000000 ds' /\ val 1000000000 ds' = pre s s.size /\ ds'.length <= 12 /\ Below w.heap.size w w' := by
 have H := formed_any s (w.alloc (.cells #[.slice none 0 0] 30)) (by omega)
 obtain ⟨i0, hi, hz0, hz1, hz2⟩ := info_parts infoU64
 obtain ⟨N, hN, hN1, hN2, hN3⟩ : ∃ N : Nat, ((s.size : Int) + 9 - 1) / 9 = (N : Int) /\ N <= 12 /\ s.size <= 9 * N /\ 9 * N < s.size + 9 := ⟨(s.size + 8) / 9, by omega, by omega, by omega, by omega⟩
 have HOK : Hid (OkText s) := hok
 have hpos := hok.pos
 clear hok
 go_enter Tryz.func160, Tryz.ntmps160
 go_wp2_with fail
 refine H.mono ?_
 rintro e w1 ⟨h2, -, ew⟩
 have he := h2 HOK.out
 subst he
 subst ew
 clear H h2
 go_wp2_with (at_make; refine wpList_make_full _ rfl _ _ 28 rfl (w.heap.size + 1) 90 i0 (.int .u64 0) 1 Tryz.underlying28 hi hz0 hz1 .i64 .i64 _ _ N rfl rfl ?c1 ?c2 ?c3 ?c4 ?c5 ?_)
 case c1 => exact hN
 case c2 => exact hN
 case c3 => rw [hz2]; omega
 case c4 => unfold maxLen; omega
 case c5 => simp
 intro w1 hown hgrow
 rw [dcells_made] at hown
 have hbel : Below (w.heap.size + 1) (w.alloc (.cells #[.slice none 0 0] 30)) w1 := (Below.refl _ _).grown hgrow (by simp) (fun k hk => by cases hk)
 clear hgrow
 try simp only [hN]
 clear hN
 go_wp2_with fail
 go_loopw [26] (fun iv wr => ∃ (k : Nat) (out : List Nat), k <= N /\ iv = .int .i64 k /\ out.length = N /\ (∀ i, dig out i < 1000000000) /\ pre s s.size = pre s (s.size - 9 * k) * 1000000000 ^ k + S 1000000000 (dig out) k /\ wr.ownsRow (w.heap.size + 1) 90 1 (.slice (some ⟨w.heap.size + 1, 0, none⟩) N N) N (dcells .u64 out) /\ Below (w.heap.size + 1) (w.alloc (.cells #[.slice none 0 0] 30)) wr)
  (fun iv _ => N - (intOf iv).toNat)
 case atStart => exact ⟨0, List.replicate N 0, Nat.zero_le _, rfl, by simp, fun i => by rw [dig_replicate]; omega, by simp [S], hown, hbel⟩
 case round =>
  obtain ⟨k, out, hk, rfl, hol, hsm, hS, hownr, hbelr⟩ := hrel
  have HSm : Hid (∀ i, dig out i < 1000000000) := hsm
  have HS : Hid (pre s s.size = pre s (s.size - 9 * k) * 1000000000 ^ k + S 1000000000 (dig out) k) := hS
  have HO : Hid (out.length = N) := hol
  clear hsm hS hown hbel hol
  by_cases hlt : k < N
  ·obtain ⟨hi', lo, e1, e2, hhi, hlo⟩ : ∃ hi lo : Nat, (s.size : Int) - (k : Int) * 9 = (hi : Int) /\ max ((hi : Int) - 9) 0 = (lo : Int) /\ hi = s.size - 9 * k /\ lo = s.size - 9 * k - 9 := ⟨s.size - 9 * k, s.size - 9 * k - 9, by omega, by omega, rfl, rfl⟩
   have hkl : k < out.length := by have := HO.out; omega
   have hb1 : lo <= hi' := by omega
   have hb2 : hi' <= s.size := by omega
   have HHI : Hid (hi' = s.size - 9 * k) := hhi
   have HLO : Hid (lo = s.size - 9 * k - 9) := hlo
   have h9 : hi' - lo <= 9 := by omega
   clear hhi hlo
   have hD : ∀ j, j < (s.extract lo hi').size -> 48 <= bt (s.extract lo hi') j /\ bt (s.extract lo hi') j <= 57 := fun j hj => by
    rw [Num.size_extract s hb2] at hj
    rw [bt_extract s hb2 hj]
    exact HOK.out.digits _ (by omega)
   have HV := value_any (s.extract lo hi') wr (by rw [Num.size_extract s hb2]; exact h9) hD
   rw [Num.size_extract s hb2, pre_extract s hb2 _ (Nat.le_refl _)] at HV
   have hmid : mid s lo (hi' - lo) < 1000000000 := by
    have h1 := mid_lt s HOK.out.digits lo (hi' - lo) (by omega)
    have h2 : 10 ^ (hi' - lo) <= 10 ^ 9 := Nat.pow_le_pow_right (by omega) h9
    omega
   clear hD
   have hcell := hownr.cellAt k (by omega)
   rw [dcells_at .u64 out k hkl] at hcell
   have hfr := hownr.frozenAt k
   go_wp2_with fail
   refine HV.mono ?_
   rintro e w2 ⟨rfl, ew⟩
   subst ew
   go_wp2
   go_roundw
   case rel =>
    refine ⟨k + 1, out.set k (mid s lo (hi' - lo)), by omega, by go_num, by rw [List.length_set]; exact HO.out, small_set hkl HSm.out hmid, ?_, owns_set hownr k _, hbelr.setCell (by show _ <= w.heap.size + 1; omega) _⟩
    have hst := parse_step hkl (by have := HHI.out; omega) HS.out
    rw [HLO.out, HHI.out]
    exact hst
   case measure => simp [intOf]; omega
  ·obtain rfl : k = N := by omega
   have hE := HS.out
   have hvo := S_val 1000000000 out k (by have := HO.out; omega)
   rw [hvo, show s.size - 9 * k = 0 by omega] at hE
   have HVO : Hid (val 1000000000 out = pre s s.size) := by
    show _ = _
    rw [hE]; simp [pre]
   clear hvo hE
   rw [show k = out.length from HO.out.symm] at hownr
   have hD := Dig.of_owns hownr
   rw [HO.out] at hD
   clear hownr
   go_wp2_with fail
   refine (trimmed_any _ out _ hD HSm.out (by have := HO.out; omega)).mono ?_
   rintro e w2 ⟨v2, rfl, ds2, hd2, hn2, hv2, hl2, hb2⟩
   obtain ⟨a2, cap2, ev2, -, -⟩ := id hd2
   subst ev2
   have hsz := hbelr.size
   simp only [World.size_alloc] at hsz
   have hb3 : Below (w.heap.size + 1) (w.alloc (.cells #[.slice none 0 0] 30)) w2 := hbelr.trans (hb2.mono (by omega))
   have hc : w2.cell? ⟨w.heap.size, 0, none⟩ = some (.slice none 0 0) := (hb3.cell (p := ⟨w.heap.size, 0, none⟩) (by show w.heap.size < _; omega)).trans (cell1_0 _ _ _)
   have hf : w2.frozen? ⟨w.heap.size, 0, none⟩ = false := (hb3.frozen (p := ⟨w.heap.size, 0, none⟩) (by show w.heap.size < _; omega)).trans (frozen1_0 _ _ _)
   have hcs : (w2.setCell ⟨w.heap.size, 0, none⟩ (.slice a2 ds2.length cap2)).cell? ⟨w.heap.size, 0, none⟩ = some (.slice a2 ds2.length cap2) := World.cell?_setCell_same' _ _ _ (by simp [hc])
   go_wp2
   refine bodyPost_ret (v := .tuple #[.agg #[.slice a2 ds2.length cap2], .nilIface]) (by simp [results, Tryz.results160, go_sem, hcs]) rfl ?_
   refine ⟨_, rfl, ds2, hd2.set hc (fun n h => by cases h) _, hn2, by rw [hv2]; exact HVO.out, by have := HO.out; omega, ?_⟩
   exact (((Below.refl _ _).alloc (Nat.le_refl _) _).trans (hb3.mono (by omega))).setCell (by show _ <= w.heap.size; omega) _
end
section
open Go.RowKit Num Go.Sort
theorem cmp_any (va vb : Value) (a b : List Nat) (w : World) (ha : Dig .u64 w va a) (hb : Dig .u64 w vb b) (na : ∀ i, dig a i < 1000000000) (nb : ∀ i, dig b i < 1000000000) (la : a.length <= 10000) (lb : b.length <= 10000) :
  Calls Tryz.prog 29 #[.agg #[va], .agg #[vb]] w fun e w' => e = .returned (.int .i64 (cmpN (val 1000000000 a) (val 1000000000 b))) /\ Below w.heap.size w w' := by
 obtain ⟨aa, ca, eva, hca, hcella⟩ := id ha
 obtain ⟨ab, cb, evb, hcb, hcellb⟩ := id hb
 subst eva evb
 clear hcella hcellb hca hcb
 obtain ⟨n, hn, hna, hnb, hln⟩ : ∃ n : Nat, max (a.length : Int) (b.length : Int) = (n : Int) /\ a.length <= n /\ b.length <= n /\ n <= 10000 := ⟨max a.length b.length, by omega, by omega, by omega, by omega⟩
 go_enter Tryz.func29, Tryz.ntmps29
 go_wp2_with fail
 clear hn
 go_loopw [17] (fun i wr => ∃ k : Nat, k <= n /\ i = .int .i64 k /\ (∀ j, n - k <= j -> j < n -> dig a j = dig b j) /\ Below (w.heap.size + 2) ((w.alloc (.cells #[.slice aa a.length ca] 30)).alloc (.cells #[.slice ab b.length cb] 30)) wr)
   (fun i _ => n - (intOf i).toNat)
 case atStart => exact ⟨0, Nat.zero_le _, rfl, fun j h1 h2 => by omega, Below.refl _ _⟩
 case round =>
  obtain ⟨k, hk, rfl, heq, hbel⟩ := hrel
  have HE : Hid (∀ j, n - k <= j -> j < n -> dig a j = dig b j) := heq
  clear heq
  have hbw : Below w.heap.size w wr := (((Below.refl _ _).alloc (Nat.le_refl _) _).alloc (by simp) _).trans (hbel.mono (by omega))
  by_cases hlt : k < n
  ·have c0 : wr.cell? ⟨w.heap.size, 0, none⟩ = some (.slice aa a.length ca) := (hbel.cell (p := ⟨w.heap.size, 0, none⟩) (by simp)).trans (by simp)
   have c1 : wr.cell? ⟨w.heap.size + 1, 0, none⟩ = some (.slice ab b.length cb) := (hbel.cell (p := ⟨w.heap.size + 1, 0, none⟩) (by simp)).trans (by simp)
   have k0 := cell_regrown c0
   have k1 := cell_regrown c1
   have cA : ∀ d os, Calls Tryz.prog 60 #[.agg #[.slice aa a.length ca], .int .i64 ((n : Int) - 1 - k)] (grow (redrawn wr d) os) fun e w'' => e = .returned (.int .u64 ((dig a (n - 1 - k) : Nat) : Int)) /\ ∃ p : Regrown, w'' = grow (redrawn wr p.d) p.os := fun d os => by
    have := digit_int _ a ((n : Int) - 1 - k) (grow (redrawn wr d) os) (ha.below (hbw.trans ((below_regrown wr d os).mono hbw.size))) (by omega) (by omega) (by omega)
    rw [show ((n : Int) - 1 - k).toNat = n - 1 - k by omega] at this
    exact Calls.regrown_of this
   have cB : ∀ d os, Calls Tryz.prog 60 #[.agg #[.slice ab b.length cb], .int .i64 ((n : Int) - 1 - k)] (grow (redrawn wr d) os) fun e w'' => e = .returned (.int .u64 ((dig b (n - 1 - k) : Nat) : Int)) /\ ∃ p : Regrown, w'' = grow (redrawn wr p.d) p.os := fun d os => by
    have := digit_int _ b ((n : Int) - 1 - k) (grow (redrawn wr d) os) (hb.below (hbw.trans ((below_regrown wr d os).mono hbw.size))) (by omega) (by omega) (by omega)
    rw [show ((n : Int) - 1 - k).toNat = n - 1 - k by omega] at this
    exact Calls.regrown_of this
   have hx := na (n - 1 - k)
   have hy := nb (n - 1 - k)
   have hlt' : (k : Int) < n := by omega
   have e1 : IntKind.i64.wrap ((n : Int) - 1) = (n : Int) - 1 := w64 (by omega) (by omega)
   have e2 : IntKind.i64.wrap ((n : Int) - 1 - k) = (n : Int) - 1 - k := w64 (by omega) (by omega)
   go_wp2_with fail
   refine wp_region_quiet_below mixed (by kernel_rfl) ?_
   repeat (quiet_step (first | (go_at_call_of 60 aa; exact cA _ _) | (go_at_call_of 60 ab; exact cB _ _)))
   refine wpQuiet_nil ?_
   intro _ hw'
   obtain ⟨⟨dq, osq⟩, hw''⟩ := hw'
   subst hw''
   clear cA cB k0 k1
   have hgr : Below w.heap.size w (grow (redrawn wr dq) osq) := hbw.trans ((below_regrown wr dq osq).mono hbw.size)
   generalize hdx : dig a (n - 1 - k) = x at *
   generalize hdy : dig b (n - 1 - k) = y at *
   have HX : Hid (dig a (n - 1 - k) = x) := hdx
   have HY : Hid (dig b (n - 1 - k) = y) := hdy
   clear hdx hdy
   go_wp2
   ·go_ret
    refine ⟨ret_int ?_, hgr⟩
    have hxy : x < y := by assumption
    exact (cmpN_lt (cmp_lt na hna hnb (t := n - 1 - k) (by omega) (by rw [HX.out, HY.out]; exact hxy) (fun i h1 h2 => HE.out i (by omega) h2))).symm
   ·go_ret
    refine ⟨ret_int ?_, hgr⟩
    have hxy : y < x := by assumption
    exact (cmpN_gt (cmp_lt nb hnb hna (t := n - 1 - k) (by omega) (by rw [HX.out, HY.out]; exact hxy) (fun i h1 h2 => (HE.out i (by omega) h2).symm))).symm
   ·go_roundw
    case rel =>
     refine ⟨k + 1, by omega, by go_num, fun j h1 h2 => ?_, hbel.trans ((below_regrown wr dq osq).mono (by have := hbel.size; simpa using this))⟩
     by_cases hj : j = n - 1 - k
     ·rw [hj, HX.out, HY.out]; omega
     ·exact HE.out j (by omega) h2
    case measure => simp [intOf]; omega
  ·obtain rfl : k = n := by omega
   go_wp2
   go_ret
   refine ⟨ret_int ?_, hbw⟩
   rw [cmp_eq hna hnb (fun i h => HE.out i (by omega) h), cmpN_eq]
end
end Go.Proofs.YtcjjekhecjmaeaaGreatDoor
