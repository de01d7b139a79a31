/- The contracts of formed and value. -/
import Derived.Test.YtcjjekhecjmaeaaGreatDoorCnBase
import Derived.PlainAid
set_option maxHeartbeats 1000000
set_option maxRecDepth 100000
namespace Go.Proofs.YtcjjekhecjmaeaaGreatDoor
open Go.RowKit Num Go.Sort
theorem infoU64 : (Tryz.prog.info? 90).map (fun i => (i.zero, i.size, i.bytes)) = some (some (.int .u64 0), 1, 8) := by kernel_rfl
theorem of_any (n : Int) (w : World) (h0 : -9223372036854775808 <= n) (h1 : n <= 9223372036854775807) :
  Calls Tryz.prog 108 #[.int .i64 n] w fun e w' => ∃ v, e = .returned (.agg #[v]) /\ ∃ ds, Dig .u64 w' v ds /\ Norm 1000000000 ds /\ val 1000000000 ds = n.toNat /\ Below w.heap.size w w' := by
 obtain ⟨i0, hi, hz0, hz1, hz2⟩ := info_parts infoU64
 go_enter Tryz.func108, Tryz.ntmps108
 go_wp2_with fail
 go_loopw [0, 3] (fun i v wr => ∃ (ds : List Nat) (m : Int) (a : Option Addr) (cap : Nat), i = .int .i64 m /\ v = .slice a ds.length cap /\ -9223372036854775808 <= m /\ m <= 9223372036854775807 /\ (∀ i, dig ds i < 1000000000) /\ (m <= 0 -> ds.length ≠ 0 -> dig ds (ds.length - 1) ≠ 0) /\ val 1000000000 ds + m.toNat * 1000000000 ^ ds.length = n.toNat /\ wr.ownsRow (w.heap.size + 1) 90 1 (.slice a ds.length cap) ds.length (dcells .u64 ds) /\ Below (w.heap.size + 1) (w.alloc (.cells #[.slice none 0 0] 30)) wr)
   (fun i _ _ => (intOf i).toNat)
 case atStart => exact ⟨[], n, none, 0, rfl, rfl, h0, h1, fun i => by rw [dig_nil]; omega, fun _ h => absurd rfl h, by simp [val_nil], World.ownsRow_nil _ _ _ _, Below.refl _ _⟩
 case round =>
  obtain ⟨ds, m, a, cap, rfl, rfl, hm0, hm1, hsm, hlast, hval, hown, hbel⟩ := hrel
  have HV := hval
  by_cases hpos : 0 < m
  ·obtain ⟨m, rfl⟩ := Int.eq_ofNat_of_zero_le (show 0 <= m by omega)
   rw [Int.toNat_natCast] at hval
   have hlen := of_len (by omega) (by omega) hval
   have hsz := hbel.size
   simp only [World.size_alloc] at hsz
   go_wp2_with (at_builtin; refine wpList_append_own _ rfl _ _ 28 rfl (w.heap.size + 1) 90 i0 (.int .u64 0) 1 8 Tryz.underlying28 hi hz0 hz1 hz2 rfl (by decide) _ _ _ rfl (hown.alloc _) ⟨wr.heap.size, 0, none⟩ 1 1 [.int .u64 ((m : Int) % 1000000000)] rfl rfl ?c1 ?c2 ?c3 ?c4 ?c5 ?_)
   case c1 => exact cell_one_new _ _ _
   case c2 => intro u hu; simp at hu; subst hu; rfl
   case c3 => unfold maxLen; omega
   case c4 => omega
   case c5 => simp; omega
   ·intro v' w1 hown' hgrow _
    have hbel' : Below (w.heap.size + 1) (w.alloc (.cells #[.slice none 0 0] 30)) w1 := (hbel.alloc (by omega) _).grown hgrow (by simp; omega) (fun k hk => (hown.lt k hk).1)
    obtain ⟨a', cap', hv, -⟩ := owns_form hown'
    clear hown hgrow hbel
    go_wp2
    go_roundw
    case rel =>
     refine ⟨ds ++ [m % 1000000000], ((m / 1000000000 : Nat) : Int), a', cap', by go_num, by rw [hv]; simp, by omega, by omega, small_snoc hsm (by omega), fun h _ => ?_, ?_, ?_, hbel'⟩
     ·rw [last_snoc]; omega
     ·rw [Int.toNat_natCast]; exact of_step hval
     ·rw [hv] at hown'
      rw [dcells_snoc]
      simpa using hown'
    case measure => simp [intOf]; omega
  ·have hc : wr.cell? ⟨w.heap.size, 0, none⟩ = some (.slice none 0 0) := (hbel.cell (p := ⟨w.heap.size, 0, none⟩) (by simp)).trans (by simp)
   have hf : wr.frozen? ⟨w.heap.size, 0, none⟩ = false := (hbel.frozen (p := ⟨w.heap.size, 0, none⟩) (by simp)).trans (by simp)
   have hcs : (wr.setCell ⟨w.heap.size, 0, none⟩ (.slice a ds.length cap)).cell? ⟨w.heap.size, 0, none⟩ = some (.slice a ds.length cap) := World.cell?_setCell_same' _ _ _ (by simp [hc])
   go_wp2
   refine bodyPost_ret (v := .agg #[.slice a ds.length cap]) (by simp [results, Tryz.results108, go_sem, hcs]) rfl ?_
   refine ⟨.slice a ds.length cap, rfl, ds, Dig.of_owns (ownsRow_setCell_below hown (Nat.lt_succ_self _) _), ⟨hsm, hlast (by omega)⟩, ?_, ?_⟩
   ·have : m.toNat = 0 := by omega
    rw [this] at hval; simpa using hval
   ·exact (((Below.refl _ _).alloc (Nat.le_refl _) _).trans (hbel.mono (by omega))).setCell (Nat.le_refl _) _
end Go.Proofs.YtcjjekhecjmaeaaGreatDoor
namespace Go.Proofs.YtcjjekhecjmaeaaGreatDoor.Num
open Go.PlainAid
structure OkText (s : ByteArray) : Prop where
 pos : 0 < s.size
 head : bt s 0 = 48 -> s.size = 1
 digits : ∀ k, k < s.size -> 48 <= bt s k /\ bt s k <= 57
def pre (s : ByteArray) : Nat -> Nat
 | 0 => 0
 | k + 1 => pre s k * 10 + (bt s k - 48).toNat
theorem pre_succ (s : ByteArray) (k : Nat) : pre s (k + 1) = pre s k * 10 + (bt s k - 48).toNat := rfl
theorem pre_lt (s : ByteArray) (h : ∀ k, k < s.size -> 48 <= bt s k /\ bt s k <= 57) : ∀ k, k <= s.size -> pre s k < 10 ^ k
 | 0, _ => by simp [pre]
 | k + 1, hk => by
  have h1 := pre_lt s h k (by omega)
  have h2 := h k (by omega)
  rw [pre_succ, Nat.pow_succ]
  omega
def mid (s : ByteArray) (b : Nat) : Nat -> Nat
 | 0 => 0
 | m + 1 => mid s b m * 10 + (bt s (b + m) - 48).toNat
theorem mid_succ (s : ByteArray) (b m : Nat) : mid s b (m + 1) = mid s b m * 10 + (bt s (b + m) - 48).toNat := rfl
theorem pre_mid (s : ByteArray) (b : Nat) : ∀ m, pre s (b + m) = pre s b * 10 ^ m + mid s b m
 | 0 => by simp [mid]
 | m + 1 => by
  rw [<- Nat.add_assoc, pre_succ, pre_mid s b m, mid_succ, Nat.pow_succ]
  generalize 10 ^ m = p
  grind
theorem mid_lt (s : ByteArray) (h : ∀ k, k < s.size -> 48 <= bt s k /\ bt s k <= 57) (b : Nat) : ∀ m, b + m <= s.size -> mid s b m < 10 ^ m
 | 0, _ => by simp [mid]
 | m + 1, hk => by
  have h1 := mid_lt s h b m (by omega)
  have h2 := h (b + m) (by omega)
  rw [mid_succ, Nat.pow_succ]
  omega
theorem parse_step {s : ByteArray} {L k : Nat} {out : List Nat} (hk : k < out.length) (hL : 9 * k < L) (h : pre s L = pre s (L - 9 * k) * 1000000000 ^ k + S 1000000000 (dig out) k) :
  pre s L = pre s (L - 9 * (k + 1)) * 1000000000 ^ (k + 1) + S 1000000000 (dig (out.set k (mid s (L - 9 * k - 9) (L - 9 * k - (L - 9 * k - 9))))) (k + 1) := by
 have h1 := pre_mid s (L - 9 * k - 9) (L - 9 * k - (L - 9 * k - 9))
 rw [show L - 9 * k - 9 + (L - 9 * k - (L - 9 * k - 9)) = L - 9 * k by omega] at h1
 rw [S_succ, S_congr 1000000000 (dig (out.set k (mid s (L - 9 * k - 9) (L - 9 * k - (L - 9 * k - 9))))) (dig out) k (fun i hi => by rw [dig_set _ _ _ _ hk, if_neg (by omega)]), dig_set _ _ _ _ hk, if_pos rfl]
 rw [show L - 9 * (k + 1) = L - 9 * k - 9 by omega, Nat.pow_succ]
 have h2 : pre s (L - 9 * k) = pre s (L - 9 * k - 9) * 1000000000 + mid s (L - 9 * k - 9) (L - 9 * k - (L - 9 * k - 9)) := by
  by_cases h9 : 9 <= L - 9 * k
  ·rw [h1, show L - 9 * k - (L - 9 * k - 9) = 9 by omega]
  ·rw [h1, show L - 9 * k - 9 = 0 by omega]; simp [pre]
 rw [h, h2]
 generalize pre s (L - 9 * k - 9) = p
 generalize mid s (L - 9 * k - 9) (L - 9 * k - (L - 9 * k - 9)) = q
 generalize 1000000000 ^ k = B
 generalize S 1000000000 (dig out) k = t
 grind
open Go.Lib
theorem size_extract (s : ByteArray) {lo hi : Nat} (h : hi <= s.size) : (s.extract lo hi).size = hi - lo := by
 rw [ByteArray.size_extract]; omega
theorem bt_extract (s : ByteArray) {lo hi k : Nat} (h : hi <= s.size) (hk : k < hi - lo) : bt (s.extract lo hi) k = bt s (lo + k) := by
 have h1 : k < (s.extract lo hi).size := by rw [size_extract s h]; exact hk
 unfold bt
 rw [dif_pos h1, dif_pos (by omega)]
 congr 2
 rw [ByteArray.getElem_extract]
theorem pre_extract (s : ByteArray) {lo hi : Nat} (h : hi <= s.size) : ∀ m, m <= hi - lo -> pre (s.extract lo hi) m = mid s lo m
 | 0, _ => rfl
 | m + 1, hm => by rw [pre_succ, mid_succ, pre_extract s h m (by omega), bt_extract s h (by omega)]
end Go.Proofs.YtcjjekhecjmaeaaGreatDoor.Num
namespace Go.Proofs.YtcjjekhecjmaeaaGreatDoor
open Go.RowKit Num Go.Sort Go.PlainAid
def AllDig (s : ByteArray) : Prop := ∀ k, k < s.size -> 48 <= bt s k /\ bt s k <= 57
theorem not_empty {s : ByteArray} (h : 0 < s.size) : s.toList.isEmpty = false := by
 rw [ByteArray.toList_eq]
 cases e : s.data.toList with
 | nil =>
  have : s.data.toList.length = 0 := by rw [e]; rfl
  have h2 : s.data.toList.length = s.size := by simp
  omega
 | cons a l => rfl
theorem formed_empty (s : ByteArray) (w : World) (h0 : s.size = 0) :
  Calls Tryz.prog 170 #[.string s] w fun e w' => e = .returned (.bool false) /\ w = w' := by
 have he : s = ⟨#[]⟩ := by
  apply ByteArray.ext
  exact Array.eq_empty_of_size_eq_zero h0
 subst he
 clear h0
 go_enter Tryz.func170, Tryz.ntmps170
 go_wp2
 go_ret
 exact ⟨rfl, rfl⟩
theorem formed_head (s : ByteArray) (w : World) (h1 : 1 < s.size) (_hm : s.size <= 100000) (hh : bt s 0 = 48) :
  Calls Tryz.prog 170 #[.string s] w fun e w' => e = .returned (.bool false) /\ w = w' := by
 have hb := get_bt s
 have hne := not_empty (s := s) (by omega)
 go_enter Tryz.func170, Tryz.ntmps170
 go_wp2
 go_ret
 exact ⟨rfl, rfl⟩
theorem formed_rest (s : ByteArray) (w : World) (h1 : 0 < s.size) (hm : s.size <= 100000) (hh : bt s 0 = 48 -> s.size = 1) :
  Calls Tryz.prog 170 #[.string s] w fun e w' => (AllDig s -> e = .returned (.bool true)) /\ (¬ AllDig s -> e = .returned (.bool false)) /\ w = w' := by
 have hb := get_bt s
 have hne := not_empty h1
 obtain ⟨q, hq, hq2⟩ : ∃ q : Bool, (bt s 0 == 48) = q /\ (q = true -> ¬ 1 < s.size) := ⟨_, rfl, fun e => by have := hh (by simpa using e); omega⟩
 have key : (q = false) \/ (q = true /\ ¬ 1 < s.size) := by
  cases q
  ·exact Or.inl rfl
  ·exact Or.inr ⟨rfl, hq2 rfl⟩
 clear hq2 hh
 have fin : ∀ W : World, Calls Tryz.prog 170 #[.string s] W fun e w' => (AllDig s -> e = .returned (.bool true)) /\ (¬ AllDig s -> e = .returned (.bool false)) /\ W = w' := by
  intro W
  rcases key with rfl | ⟨rfl, hsz⟩
  all_goals
   go_enter Tryz.func170, Tryz.ntmps170
   go_wp2_with fail
   go_loop [18] (fun i => ∃ k : Nat, k <= s.size /\ i = .int .i64 k /\ ∀ j, j < k -> 48 <= bt s j /\ bt s j <= 57) (fun i => s.size - (intOf i).toNat)
   case atStart => exact ⟨0, Nat.zero_le _, rfl, fun j h => by omega⟩
   case round =>
    obtain ⟨k, hk, rfl, hall⟩ := hrel
    have HA : Hid (∀ j, j < k -> 48 <= bt s j /\ bt s j <= 57) := hall
    clear hall
    have hb0 := bt_nonneg s k
    have hb1 := bt_le s k
    by_cases hlt : k < s.size
    ·by_cases ha : bt s k < 48
     ·go_wp2
      go_ret
      exact ⟨fun h => by have := h k hlt; omega, fun _ => rfl, rfl⟩
     ·by_cases hz : 57 < bt s k
      ·go_wp2
       go_ret
       exact ⟨fun h => by have := h k hlt; omega, fun _ => rfl, rfl⟩
      ·go_wp2
       go_round
       case rel =>
        refine ⟨k + 1, by omega, by go_num, fun j hj => ?_⟩
        by_cases e : j = k
        ·rw [e]; omega
        ·exact HA.out j (by omega)
       case measure => simp [intOf]; omega
    ·obtain rfl : k = s.size := by omega
     go_wp2
     go_ret
     exact ⟨fun _ => rfl, fun h => absurd HA.out h, rfl⟩
 exact fin w
theorem formed_any (s : ByteArray) (w : World) (hm : s.size <= 100000) :
  Calls Tryz.prog 170 #[.string s] w fun e w' => (OkText s -> e = .returned (.bool true)) /\ (¬ OkText s -> e = .returned (.bool false)) /\ w = w' := by
 by_cases h0 : s.size = 0
 ·exact (formed_empty s w h0).mono fun e w' ⟨he, hw⟩ => ⟨fun h => by have := h.pos; omega, fun _ => he, hw⟩
 ·by_cases hh : bt s 0 = 48 /\ 1 < s.size
  ·exact (formed_head s w hh.2 hm hh.1).mono fun e w' ⟨he, hw⟩ => ⟨fun h => by have := h.head hh.1; omega, fun _ => he, hw⟩
  ·refine (formed_rest s w (by omega) hm (fun e => ?_)).mono fun e w' ⟨h1, h2, hw⟩ => ⟨fun h => h1 h.digits, fun h => h2 (fun hd => h ⟨by omega, fun e => ?_, hd⟩), hw⟩
   ·by_cases h1 : s.size = 1
    ·exact h1
    ·exact absurd ⟨e, by omega⟩ hh
   ·by_cases h1 : s.size = 1
    ·exact h1
    ·exact absurd ⟨e, by omega⟩ hh
theorem value_any (s : ByteArray) (w : World) (hm : s.size <= 9) (hd : ∀ k, k < s.size -> 48 <= bt s k /\ bt s k <= 57) :
  Calls Tryz.prog 171 #[.string s] w fun e w' => e = .returned (.int .u64 ((pre s s.size : Nat) : Int)) /\ w = w' := by
 have hb := get_bt s
 have HD : Hid (∀ k, k < s.size -> 48 <= bt s k /\ bt s k <= 57) := hd
 clear hd
 go_enter Tryz.func171, Tryz.ntmps171
 go_wp2_with fail
 go_loop [3, 7] (fun o i => ∃ k : Nat, k <= s.size /\ i = .int .i64 k /\ o = .int .u64 ((pre s k : Nat) : Int)) (fun _ i => s.size - (intOf i).toNat)
 case atStart => exact ⟨0, Nat.zero_le _, rfl, rfl⟩
 case round =>
  obtain ⟨k, hk, rfl, rfl⟩ := hrel
  have hp := pre_lt s HD.out k hk
  have hp9 : 10 ^ k <= 10 ^ 9 := Nat.pow_le_pow_right (by omega) (by omega)
  have hp2 : pre s k < 1000000000 := by omega
  clear hp hp9
  by_cases hlt : k < s.size
  ·have hdk := HD.out k hlt
   obtain ⟨d0, d1⟩ := hdk
   go_wp2
   go_round
   case rel =>
    refine ⟨k + 1, by omega, by go_num, ?_⟩
    rw [pre_succ]
    go_num
   case measure => simp [intOf]; omega
  ·obtain rfl : k = s.size := by omega
   go_wp2
   go_ret
   exact ⟨rfl, rfl⟩
end Go.Proofs.YtcjjekhecjmaeaaGreatDoor
