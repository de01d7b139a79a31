/- The contracts of Parse. -/
import Derived.Test.YtcjjekhecjmaeaaGreatDoorCnBase
import Derived.PlainAid
import Derived.Test.YtcjjekhecjmaeaaGreatDoorCnOf
set_option maxHeartbeats 1000000
set_option maxRecDepth 100000
namespace Go.Proofs.YtcjjekhecjmaeaaGreatDoor.Num
open Go.PlainAid
structure OkText (s : ByteArray) : Prop where
 pos : 0 < s.size
 head : bt s 0 = 48 -> s.size = 1
 digits : ∀ k, k < s.size -> 48 <= bt s k /\ bt s k <= 57
def pre (s : ByteArray) : Nat -> Nat
 | 0 => 0
 | k + 1 => pre s k * 10 + (bt s k - 48).toNat
theorem pre_succ (s : ByteArray) (k : Nat) : pre s (k + 1) = pre s k * 10 + (bt s k - 48).toNat := rfl
theorem pre_lt (s : ByteArray) (h : ∀ k, k < s.size -> 48 <= bt s k /\ bt s k <= 57) : ∀ k, k <= s.size -> pre s k < 10 ^ k
 | 0, _ => by simp [pre]
 | k + 1, hk => by
  have h1 := pre_lt s h k (by omega)
  have h2 := h k (by omega)
  rw [pre_succ, Nat.pow_succ]
  omega
def mid (s : ByteArray) (b : Nat) : Nat -> Nat
 | 0 => 0
 | m + 1 => mid s b m * 10 + (bt s (b + m) - 48).toNat
theorem mid_succ (s : ByteArray) (b m : Nat) : mid s b (m + 1) = mid s b m * 10 + (bt s (b + m) - 48).toNat := rfl
theorem pre_mid (s : ByteArray) (b : Nat) : ∀ m, pre s (b + m) = pre s b * 10 ^ m + mid s b m
 | 0 => by simp [mid]
 | m + 1 => by
  rw [<- Nat.add_assoc, pre_succ, pre_mid s b m, mid_succ, Nat.pow_succ]
  generalize 10 ^ m = p
  grind
theorem mid_lt (s : ByteArray) (h : ∀ k, k < s.size -> 48 <= bt s k /\ bt s k <= 57) (b : Nat) : ∀ m, b + m <= s.size -> mid s b m < 10 ^ m
 | 0, _ => by simp [mid]
 | m + 1, hk => by
  have h1 := mid_lt s h b m (by omega)
  have h2 := h (b + m) (by omega)
  rw [mid_succ, Nat.pow_succ]
  omega
theorem parse_step {s : ByteArray} {L k : Nat} {out : List Nat} (hk : k < out.length) (hL : 9 * k < L) (h : pre s L = pre s (L - 9 * k) * 1000000000 ^ k + S 1000000000 (dig out) k) :
  pre s L = pre s (L - 9 * (k + 1)) * 1000000000 ^ (k + 1) + S 1000000000 (dig (out.set k (mid s (L - 9 * k - 9) (L - 9 * k - (L - 9 * k - 9))))) (k + 1) := by
 have h1 := pre_mid s (L - 9 * k - 9) (L - 9 * k - (L - 9 * k - 9))
 rw [show L - 9 * k - 9 + (L - 9 * k - (L - 9 * k - 9)) = L - 9 * k by omega] at h1
 rw [S_succ, S_congr 1000000000 (dig (out.set k (mid s (L - 9 * k - 9) (L - 9 * k - (L - 9 * k - 9))))) (dig out) k (fun i hi => by rw [dig_set _ _ _ _ hk, if_neg (by omega)]), dig_set _ _ _ _ hk, if_pos rfl]
 rw [show L - 9 * (k + 1) = L - 9 * k - 9 by omega, Nat.pow_succ]
 have h2 : pre s (L - 9 * k) = pre s (L - 9 * k - 9) * 1000000000 + mid s (L - 9 * k - 9) (L - 9 * k - (L - 9 * k - 9)) := by
  by_cases h9 : 9 <= L - 9 * k
  ·rw [h1, show L - 9 * k - (L - 9 * k - 9) = 9 by omega]
  ·rw [h1, show L - 9 * k - 9 = 0 by omega]; simp [pre]
 rw [h, h2]
 generalize pre s (L - 9 * k - 9) = p
 generalize mid s (L - 9 * k - 9) (L - 9 * k - (L - 9 * k - 9)) = q
 generalize 1000000000 ^ k = B
 generalize S 1000000000 (dig out) k = t
 grind
open Go.Lib
theorem pre_pos {s : ByteArray} (h : OkText s) (h0 : bt s 0 ≠ 48) : ∀ k, 1 <= k -> k <= s.size -> 1 <= pre s k
 | 0, h1, _ => by omega
 | 1, _, _ => by
  have := h.digits 0 h.pos
  rw [pre_succ]; simp only [pre]; omega
 | k + 2, _, hk => by
  have := pre_pos h h0 (k + 1) (by omega) (by omega)
  rw [pre_succ]; omega
theorem byte_of (c : UInt8) (h0 : 48 <= (c.toNat : Int)) : UInt8.ofNat (48 + ((c.toNat : Int) - 48).toNat) = c := by
 apply UInt8.toNat.inj
 have := c.toNat_lt
 rw [UInt8.toNat_ofNat']
 omega
theorem bt_at (s : ByteArray) (k : Nat) (h : k < s.size) : bt s k = (s.data.toList[k]'(by simpa using h)).toNat := by
 unfold bt; rw [dif_pos h]; rfl
theorem text_of {s : ByteArray} (h : OkText s) : ∀ k, 1 <= k -> k <= s.size -> decDigits (pre s k) = s.data.toList.take k
 | 0, h1, _ => by omega
 | 1, _, hk => by
  have hd := h.digits 0 h.pos
  rw [pre_succ]; simp only [pre]
  rw [decDigits_one (by omega)]
  have hl : 0 < s.data.toList.length := by simpa using h.pos
  rw [List.take_succ_eq_append_getElem hl, List.take_zero, List.nil_append]
  rw [bt_at s 0 h.pos] at hd ⊢
  congr 1
  rw [show 0 * 10 + (((s.data.toList[0]'hl).toNat : Int) - 48).toNat = (((s.data.toList[0]'hl).toNat : Int) - 48).toNat by omega]
  exact byte_of _ hd.1
 | k + 2, _, hk => by
  have h0 : bt s 0 ≠ 48 := fun e => by have := h.head e; omega
  have ih := text_of h (k + 1) (by omega) (by omega)
  have hp := pre_pos h h0 (k + 1) (by omega) (by omega)
  have hd := h.digits (k + 1) (by omega)
  have hl : k + 1 < s.data.toList.length := by simp; omega
  rw [pre_succ, decDigits_snoc _ _ hp (by omega), ih, List.take_succ_eq_append_getElem hl]
  congr 2
  rw [bt_at s (k + 1) (by omega)] at hd ⊢
  exact byte_of _ hd.1
theorem size_extract (s : ByteArray) {lo hi : Nat} (h : hi <= s.size) : (s.extract lo hi).size = hi - lo := by
 rw [ByteArray.size_extract]; omega
theorem bt_extract (s : ByteArray) {lo hi k : Nat} (h : hi <= s.size) (hk : k < hi - lo) : bt (s.extract lo hi) k = bt s (lo + k) := by
 have h1 : k < (s.extract lo hi).size := by rw [size_extract s h]; exact hk
 unfold bt
 rw [dif_pos h1, dif_pos (by omega)]
 congr 2
 rw [ByteArray.getElem_extract]
theorem pre_extract (s : ByteArray) {lo hi : Nat} (h : hi <= s.size) : ∀ m, m <= hi - lo -> pre (s.extract lo hi) m = mid s lo m
 | 0, _ => rfl
 | m + 1, hm => by rw [pre_succ, mid_succ, pre_extract s h m (by omega), bt_extract s h (by omega)]
end Go.Proofs.YtcjjekhecjmaeaaGreatDoor.Num
namespace Go.Proofs.YtcjjekhecjmaeaaGreatDoor
open Go.RowKit Num Go.Sort Go.PlainAid
def AllDig (s : ByteArray) : Prop := ∀ k, k < s.size -> 48 <= bt s k /\ bt s k <= 57
theorem not_empty {s : ByteArray} (h : 0 < s.size) : s.toList.isEmpty = false := by
 rw [ByteArray.toList_eq]
 cases e : s.data.toList with
 | nil =>
  have : s.data.toList.length = 0 := by rw [e]; rfl
  have h2 : s.data.toList.length = s.size := by simp
  omega
 | cons a l => rfl
theorem formed_empty (s : ByteArray) (w : World) (h0 : s.size = 0) :
  Calls Tryz.prog 170 #[.string s] w fun e w' => e = .returned (.bool false) /\ w = w' := by
 have he : s = ⟨#[]⟩ := by
  apply ByteArray.ext
  exact Array.eq_empty_of_size_eq_zero h0
 subst he
 clear h0
 go_enter Tryz.func170, Tryz.ntmps170
 go_wp2
 go_ret
 exact ⟨rfl, rfl⟩
theorem formed_head (s : ByteArray) (w : World) (h1 : 1 < s.size) (_hm : s.size <= 100000) (hh : bt s 0 = 48) :
  Calls Tryz.prog 170 #[.string s] w fun e w' => e = .returned (.bool false) /\ w = w' := by
 have hb := get_bt s
 have hne := not_empty (s := s) (by omega)
 go_enter Tryz.func170, Tryz.ntmps170
 go_wp2
 go_ret
 exact ⟨rfl, rfl⟩
theorem formed_rest (s : ByteArray) (w : World) (h1 : 0 < s.size) (hm : s.size <= 100000) (hh : bt s 0 = 48 -> s.size = 1) :
  Calls Tryz.prog 170 #[.string s] w fun e w' => (AllDig s -> e = .returned (.bool true)) /\ (¬ AllDig s -> e = .returned (.bool false)) /\ w = w' := by
 have hb := get_bt s
 have hne := not_empty h1
 obtain ⟨q, hq, hq2⟩ : ∃ q : Bool, (bt s 0 == 48) = q /\ (q = true -> ¬ 1 < s.size) := ⟨_, rfl, fun e => by have := hh (by simpa using e); omega⟩
 have key : (q = false) \/ (q = true /\ ¬ 1 < s.size) := by
  cases q
  ·exact Or.inl rfl
  ·exact Or.inr ⟨rfl, hq2 rfl⟩
 clear hq2 hh
 have fin : ∀ W : World, Calls Tryz.prog 170 #[.string s] W fun e w' => (AllDig s -> e = .returned (.bool true)) /\ (¬ AllDig s -> e = .returned (.bool false)) /\ W = w' := by
  intro W
  rcases key with rfl | ⟨rfl, hsz⟩
  all_goals
   go_enter Tryz.func170, Tryz.ntmps170
   go_wp2_with fail
   go_loop [18] (fun i => ∃ k : Nat, k <= s.size /\ i = .int .i64 k /\ ∀ j, j < k -> 48 <= bt s j /\ bt s j <= 57) (fun i => s.size - (intOf i).toNat)
   case atStart => exact ⟨0, Nat.zero_le _, rfl, fun j h => by omega⟩
   case round =>
    obtain ⟨k, hk, rfl, hall⟩ := hrel
    have HA : Hid (∀ j, j < k -> 48 <= bt s j /\ bt s j <= 57) := hall
    clear hall
    have hb0 := bt_nonneg s k
    have hb1 := bt_le s k
    by_cases hlt : k < s.size
    ·by_cases ha : bt s k < 48
     ·go_wp2
      go_ret
      exact ⟨fun h => by have := h k hlt; omega, fun _ => rfl, rfl⟩
     ·by_cases hz : 57 < bt s k
      ·go_wp2
       go_ret
       exact ⟨fun h => by have := h k hlt; omega, fun _ => rfl, rfl⟩
      ·go_wp2
       go_round
       case rel =>
        refine ⟨k + 1, by omega, by go_num, fun j hj => ?_⟩
        by_cases e : j = k
        ·rw [e]; omega
        ·exact HA.out j (by omega)
       case measure => simp [intOf]; omega
    ·obtain rfl : k = s.size := by omega
     go_wp2
     go_ret
     exact ⟨fun _ => rfl, fun h => absurd HA.out h, rfl⟩
 exact fin w
theorem formed_any (s : ByteArray) (w : World) (hm : s.size <= 100000) :
  Calls Tryz.prog 170 #[.string s] w fun e w' => (OkText s -> e = .returned (.bool true)) /\ (¬ OkText s -> e = .returned (.bool false)) /\ w = w' := by
 by_cases h0 : s.size = 0
 ·exact (formed_empty s w h0).mono fun e w' ⟨he, hw⟩ => ⟨fun h => by have := h.pos; omega, fun _ => he, hw⟩
 ·by_cases hh : bt s 0 = 48 /\ 1 < s.size
  ·exact (formed_head s w hh.2 hm hh.1).mono fun e w' ⟨he, hw⟩ => ⟨fun h => by have := h.head hh.1; omega, fun _ => he, hw⟩
  ·refine (formed_rest s w (by omega) hm (fun e => ?_)).mono fun e w' ⟨h1, h2, hw⟩ => ⟨fun h => h1 h.digits, fun h => h2 (fun hd => h ⟨by omega, fun e => ?_, hd⟩), hw⟩
   ·by_cases h1 : s.size = 1
    ·exact h1
    ·exact absurd ⟨e, by omega⟩ hh
   ·by_cases h1 : s.size = 1
    ·exact h1
    ·exact absurd ⟨e, by omega⟩ hh
theorem value_any (s : ByteArray) (w : World) (hm : s.size <= 9) (hd : ∀ k, k < s.size -> 48 <= bt s k /\ bt s k <= 57) :
  Calls Tryz.prog 171 #[.string s] w fun e w' => e = .returned (.int .u64 ((pre s s.size : Nat) : Int)) /\ w = w' := by
 have hb := get_bt s
 have HD : Hid (∀ k, k < s.size -> 48 <= bt s k /\ bt s k <= 57) := hd
 clear hd
 go_enter Tryz.func171, Tryz.ntmps171
 go_wp2_with fail
 go_loop [3, 7] (fun o i => ∃ k : Nat, k <= s.size /\ i = .int .i64 k /\ o = .int .u64 ((pre s k : Nat) : Int)) (fun _ i => s.size - (intOf i).toNat)
 case atStart => exact ⟨0, Nat.zero_le _, rfl, rfl⟩
 case round =>
  obtain ⟨k, hk, rfl, rfl⟩ := hrel
  have hp := pre_lt s HD.out k hk
  have hp9 : 10 ^ k <= 10 ^ 9 := Nat.pow_le_pow_right (by omega) (by omega)
  have hp2 : pre s k < 1000000000 := by omega
  clear hp hp9
  by_cases hlt : k < s.size
  ·have hdk := HD.out k hlt
   obtain ⟨d0, d1⟩ := hdk
   go_wp2
   go_round
   case rel =>
    refine ⟨k + 1, by omega, by go_num, ?_⟩
    rw [pre_succ]
    go_num
   case measure => simp [intOf]; omega
  ·obtain rfl : k = s.size := by omega
   go_wp2
   go_ret
   exact ⟨rfl, rfl⟩
end Go.Proofs.YtcjjekhecjmaeaaGreatDoor
namespace Go.Proofs.YtcjjekhecjmaeaaGreatDoor
open Go.RowKit Num Go.Sort Go.PlainAid
theorem parse_form (s : ByteArray) (w : World) (hm : s.size <= 100000) (hno : ¬ OkText s) :
  Calls Tryz.prog 160 #[.string s] w fun e w' => e = .returned (.tuple #[.agg #[.slice none 0 0], .iface 54 (.int .i64 3)]) /\ Below w.heap.size w w' := by
 have H := formed_any s (w.alloc (.cells #[.slice none 0 0] 30)) hm
 go_enter Tryz.func160, Tryz.ntmps160
 go_wp2_with fail
 refine H.mono ?_
 rintro e w1 ⟨-, h2, rfl⟩
 have he := h2 hno
 subst he
 clear H h2 hno
 go_wp2
 refine bodyPost_ret (v := .tuple #[.agg #[.slice none 0 0], .iface 54 (.int .i64 3)]) (by simp [results, Tryz.results160, go_sem]) rfl ?_
 exact ⟨rfl, (Below.refl _ _).alloc (Nat.le_refl _) _⟩
theorem parse_limit (s : ByteArray) (w : World) (hm : s.size <= 100000) (hok : OkText s) (hl : 100 < s.size) :
  Calls Tryz.prog 160 #[.string s] w fun e w' => e = .returned (.tuple #[.agg #[.slice none 0 0], .iface 54 (.int .i64 4)]) /\ Below w.heap.size w w' := by
 have H := formed_any s (w.alloc (.cells #[.slice none 0 0] 30)) hm
 go_enter Tryz.func160, Tryz.ntmps160
 go_wp2_with fail
 refine H.mono ?_
 rintro e w1 ⟨h2, -, rfl⟩
 have he := h2 hok
 subst he
 clear H h2 hok
 go_wp2
 refine bodyPost_ret (v := .tuple #[.agg #[.slice none 0 0], .iface 54 (.int .i64 4)]) (by simp [results, Tryz.results160, go_sem]) rfl ?_
 exact ⟨rfl, (Below.refl _ _).alloc (Nat.le_refl _) _⟩
theorem parse_ok (s : ByteArray) (w : World) (hm : s.size <= 100) (hok : OkText s) :
  Calls Tryz.prog 160 #[.string s] w fun e w' => ∃ v', e = .returned (.tuple #[.agg #[v'], .nilIface]) /\ ∃ ds', Dig .u64 w' v' ds' /\ Norm 1000000000 ds' /\ val 1000000000 ds' = pre s s.size /\ ds'.length <= 12 /\ Below w.heap.size w w' := by
 have H := formed_any s (w.alloc (.cells #[.slice none 0 0] 30)) (by omega)
 obtain ⟨i0, hi, hz0, hz1, hz2⟩ := info_parts infoU64
 obtain ⟨N, hN, hN1, hN2, hN3⟩ : ∃ N : Nat, ((s.size : Int) + 9 - 1) / 9 = (N : Int) /\ N <= 12 /\ s.size <= 9 * N /\ 9 * N < s.size + 9 := ⟨(s.size + 8) / 9, by omega, by omega, by omega, by omega⟩
 have HOK : Hid (OkText s) := hok
 have hpos := hok.pos
 clear hok
 go_enter Tryz.func160, Tryz.ntmps160
 go_wp2_with fail
 refine H.mono ?_
 rintro e w1 ⟨h2, -, ew⟩
 have he := h2 HOK.out
 subst he
 subst ew
 clear H h2
 go_wp2_with (at_make; refine wpList_make_full _ rfl _ _ 28 rfl (w.heap.size + 1) 90 i0 (.int .u64 0) 1 Tryz.underlying28 hi hz0 hz1 .i64 .i64 _ _ N rfl rfl ?c1 ?c2 ?c3 ?c4 ?c5 ?_)
 case c1 => exact hN
 case c2 => exact hN
 case c3 => rw [hz2]; omega
 case c4 => unfold maxLen; omega
 case c5 => simp
 intro w1 hown hgrow
 rw [dcells_made] at hown
 have hbel : Below (w.heap.size + 1) (w.alloc (.cells #[.slice none 0 0] 30)) w1 := (Below.refl _ _).grown hgrow (by simp) (fun k hk => by cases hk)
 clear hgrow
 try simp only [hN]
 clear hN
 go_wp2_with fail
 go_loopw [26] (fun iv wr => ∃ (k : Nat) (out : List Nat), k <= N /\ iv = .int .i64 k /\ out.length = N /\ (∀ i, dig out i < 1000000000) /\ pre s s.size = pre s (s.size - 9 * k) * 1000000000 ^ k + S 1000000000 (dig out) k /\ wr.ownsRow (w.heap.size + 1) 90 1 (.slice (some ⟨w.heap.size + 1, 0, none⟩) N N) N (dcells .u64 out) /\ Below (w.heap.size + 1) (w.alloc (.cells #[.slice none 0 0] 30)) wr)
  (fun iv _ => N - (intOf iv).toNat)
 case atStart => exact ⟨0, List.replicate N 0, Nat.zero_le _, rfl, by simp, fun i => by rw [dig_replicate]; omega, by simp [S], hown, hbel⟩
 case round =>
  obtain ⟨k, out, hk, rfl, hol, hsm, hS, hownr, hbelr⟩ := hrel
  have HSm : Hid (∀ i, dig out i < 1000000000) := hsm
  have HS : Hid (pre s s.size = pre s (s.size - 9 * k) * 1000000000 ^ k + S 1000000000 (dig out) k) := hS
  have HO : Hid (out.length = N) := hol
  clear hsm hS hown hbel hol
  by_cases hlt : k < N
  ·obtain ⟨hi', lo, e1, e2, hhi, hlo⟩ : ∃ hi lo : Nat, (s.size : Int) - (k : Int) * 9 = (hi : Int) /\ max ((hi : Int) - 9) 0 = (lo : Int) /\ hi = s.size - 9 * k /\ lo = s.size - 9 * k - 9 := ⟨s.size - 9 * k, s.size - 9 * k - 9, by omega, by omega, rfl, rfl⟩
   have hkl : k < out.length := by have := HO.out; omega
   have hb1 : lo <= hi' := by omega
   have hb2 : hi' <= s.size := by omega
   have HHI : Hid (hi' = s.size - 9 * k) := hhi
   have HLO : Hid (lo = s.size - 9 * k - 9) := hlo
   have h9 : hi' - lo <= 9 := by omega
   clear hhi hlo
   have hD : ∀ j, j < (s.extract lo hi').size -> 48 <= bt (s.extract lo hi') j /\ bt (s.extract lo hi') j <= 57 := fun j hj => by
    rw [Num.size_extract s hb2] at hj
    rw [bt_extract s hb2 hj]
    exact HOK.out.digits _ (by omega)
   have HV := value_any (s.extract lo hi') wr (by rw [Num.size_extract s hb2]; exact h9) hD
   rw [Num.size_extract s hb2, pre_extract s hb2 _ (Nat.le_refl _)] at HV
   have hmid : mid s lo (hi' - lo) < 1000000000 := by
    have h1 := mid_lt s HOK.out.digits lo (hi' - lo) (by omega)
    have h2 : 10 ^ (hi' - lo) <= 10 ^ 9 := Nat.pow_le_pow_right (by omega) h9
    omega
   clear hD
   have hcell := hownr.cellAt k (by omega)
   rw [dcells_at .u64 out k hkl] at hcell
   have hfr := hownr.frozenAt k
   go_wp2_with fail
   refine HV.mono ?_
   rintro e w2 ⟨rfl, ew⟩
   subst ew
   go_wp2
   go_roundw
   case rel =>
    refine ⟨k + 1, out.set k (mid s lo (hi' - lo)), by omega, by go_num, by rw [List.length_set]; exact HO.out, small_set hkl HSm.out hmid, ?_, owns_set hownr k _, hbelr.setCell (by show _ <= w.heap.size + 1; omega) _⟩
    have hst := parse_step hkl (by have := HHI.out; omega) HS.out
    rw [HLO.out, HHI.out]
    exact hst
   case measure => simp [intOf]; omega
  ·obtain rfl : k = N := by omega
   have hE := HS.out
   have hvo := S_val 1000000000 out k (by have := HO.out; omega)
   rw [hvo, show s.size - 9 * k = 0 by omega] at hE
   have HVO : Hid (val 1000000000 out = pre s s.size) := by
    show _ = _
    rw [hE]; simp [pre]
   clear hvo hE
   rw [show k = out.length from HO.out.symm] at hownr
   have hD := Dig.of_owns hownr
   rw [HO.out] at hD
   clear hownr
   go_wp2_with fail
   refine (trimmed_any _ out _ hD HSm.out (by have := HO.out; omega)).mono ?_
   rintro e w2 ⟨v2, rfl, ds2, hd2, hn2, hv2, hl2, hb2⟩
   obtain ⟨a2, cap2, ev2, -, -⟩ := id hd2
   subst ev2
   have hsz := hbelr.size
   simp only [World.size_alloc] at hsz
   have hb3 : Below (w.heap.size + 1) (w.alloc (.cells #[.slice none 0 0] 30)) w2 := hbelr.trans (hb2.mono (by omega))
   have hc : w2.cell? ⟨w.heap.size, 0, none⟩ = some (.slice none 0 0) := (hb3.cell (p := ⟨w.heap.size, 0, none⟩) (by show w.heap.size < _; omega)).trans (cell1_0 _ _ _)
   have hf : w2.frozen? ⟨w.heap.size, 0, none⟩ = false := (hb3.frozen (p := ⟨w.heap.size, 0, none⟩) (by show w.heap.size < _; omega)).trans (frozen1_0 _ _ _)
   have hcs : (w2.setCell ⟨w.heap.size, 0, none⟩ (.slice a2 ds2.length cap2)).cell? ⟨w.heap.size, 0, none⟩ = some (.slice a2 ds2.length cap2) := World.cell?_setCell_same' _ _ _ (by simp [hc])
   go_wp2
   refine bodyPost_ret (v := .tuple #[.agg #[.slice a2 ds2.length cap2], .nilIface]) (by simp [results, Tryz.results160, go_sem, hcs]) rfl ?_
   refine ⟨_, rfl, ds2, hd2.set hc (fun n h => by cases h) _, hn2, by rw [hv2]; exact HVO.out, by have := HO.out; omega, ?_⟩
   exact (((Below.refl _ _).alloc (Nat.le_refl _) _).trans (hb3.mono (by omega))).setCell (by show _ <= w.heap.size; omega) _
end Go.Proofs.YtcjjekhecjmaeaaGreatDoor
