/- Texts of decimal digits: what they come to. No program stands in it. -/
import Derived.Test.YtfangnjdfmaaoaaDoorNum
import Derived.PlainAid
namespace Go.Proofs.YtfangnjdfmaaoaaDoor.Num
open Go.PlainAid

/-- A text that is a decimal number without a nought ahead. -/
structure OkText (s : ByteArray) : Prop where
  pos : 0 < s.size
  head : bt s 0 = 48 → s.size = 1
  digits : ∀ k, k < s.size → 48 ≤ bt s k ∧ bt s k ≤ 57

/-- The number of the first k digits. -/
def pre (s : ByteArray) : Nat → Nat
  | 0 => 0
  | k + 1 => pre s k * 10 + (bt s k - 48).toNat

theorem pre_succ (s : ByteArray) (k : Nat) : pre s (k + 1) = pre s k * 10 + (bt s k - 48).toNat := rfl

theorem pre_lt (s : ByteArray) (h : ∀ k, k < s.size → 48 ≤ bt s k ∧ bt s k ≤ 57) : ∀ k, k ≤ s.size → pre s k < 10 ^ k
  | 0, _ => by simp [pre]
  | k + 1, hk => by
    have h1 := pre_lt s h k (by omega)
    have h2 := h k (by omega)
    rw [pre_succ, Nat.pow_succ]
    omega

/-- The number of the digits from b on, m of them. -/
def mid (s : ByteArray) (b : Nat) : Nat → Nat
  | 0 => 0
  | m + 1 => mid s b m * 10 + (bt s (b + m) - 48).toNat

theorem mid_succ (s : ByteArray) (b m : Nat) : mid s b (m + 1) = mid s b m * 10 + (bt s (b + m) - 48).toNat := rfl

theorem pre_mid (s : ByteArray) (b : Nat) : ∀ m, pre s (b + m) = pre s b * 10 ^ m + mid s b m
  | 0 => by simp [mid]
  | m + 1 => by
    rw [← Nat.add_assoc, pre_succ, pre_mid s b m, mid_succ, Nat.pow_succ]
    generalize 10 ^ m = p
    grind

theorem mid_lt (s : ByteArray) (h : ∀ k, k < s.size → 48 ≤ bt s k ∧ bt s k ≤ 57) (b : Nat) : ∀ m, b + m ≤ s.size → mid s b m < 10 ^ m
  | 0, _ => by simp [mid]
  | m + 1, hk => by
    have h1 := mid_lt s h b m (by omega)
    have h2 := h (b + m) (by omega)
    rw [mid_succ, Nat.pow_succ]
    omega

/-- One piece of nine digits more (or what is left at the text's head). -/
theorem parse_step {s : ByteArray} {L k : Nat} {out : List Nat} (hk : k < out.length) (hL : 9 * k < L) (h : pre s L = pre s (L - 9 * k) * 1000000000 ^ k + S 1000000000 (dig out) k) :
    pre s L = pre s (L - 9 * (k + 1)) * 1000000000 ^ (k + 1) + S 1000000000 (dig (out.set k (mid s (L - 9 * k - 9) (L - 9 * k - (L - 9 * k - 9))))) (k + 1) := by
  have h1 := pre_mid s (L - 9 * k - 9) (L - 9 * k - (L - 9 * k - 9))
  rw [show L - 9 * k - 9 + (L - 9 * k - (L - 9 * k - 9)) = L - 9 * k by omega] at h1
  rw [S_succ, S_congr 1000000000 (dig (out.set k (mid s (L - 9 * k - 9) (L - 9 * k - (L - 9 * k - 9))))) (dig out) k (fun i hi => by rw [dig_set _ _ _ _ hk, if_neg (by omega)]), dig_set _ _ _ _ hk, if_pos rfl]
  rw [show L - 9 * (k + 1) = L - 9 * k - 9 by omega, Nat.pow_succ]
  have h2 : pre s (L - 9 * k) = pre s (L - 9 * k - 9) * 1000000000 + mid s (L - 9 * k - 9) (L - 9 * k - (L - 9 * k - 9)) := by
    by_cases h9 : 9 ≤ L - 9 * k
    · rw [h1, show L - 9 * k - (L - 9 * k - 9) = 9 by omega]
    · rw [h1, show L - 9 * k - 9 = 0 by omega]; simp [pre]
  rw [h, h2]
  generalize pre s (L - 9 * k - 9) = p
  generalize mid s (L - 9 * k - 9) (L - 9 * k - (L - 9 * k - 9)) = q
  generalize 1000000000 ^ k = B
  generalize S 1000000000 (dig out) k = t
  grind

open Go.Lib

theorem pre_pos {s : ByteArray} (h : OkText s) (h0 : bt s 0 ≠ 48) : ∀ k, 1 ≤ k → k ≤ s.size → 1 ≤ pre s k
  | 0, h1, _ => by omega
  | 1, _, _ => by
    have := h.digits 0 h.pos
    rw [pre_succ]; simp only [pre]; omega
  | k + 2, _, hk => by
    have := pre_pos h h0 (k + 1) (by omega) (by omega)
    rw [pre_succ]; omega

theorem byte_of (c : UInt8) (h0 : 48 ≤ (c.toNat : Int)) : UInt8.ofNat (48 + ((c.toNat : Int) - 48).toNat) = c := by
  apply UInt8.toNat.inj
  have := c.toNat_lt
  rw [UInt8.toNat_ofNat']
  omega

theorem bt_at (s : ByteArray) (k : Nat) (h : k < s.size) : bt s k = (s.data.toList[k]'(by simpa using h)).toNat := by
  unfold bt; rw [dif_pos h]; rfl

theorem text_of {s : ByteArray} (h : OkText s) : ∀ k, 1 ≤ k → k ≤ s.size → decDigits (pre s k) = s.data.toList.take k
  | 0, h1, _ => by omega
  | 1, _, hk => by
    have hd := h.digits 0 h.pos
    rw [pre_succ]; simp only [pre]
    rw [decDigits_one (by omega)]
    have hl : 0 < s.data.toList.length := by simpa using h.pos
    rw [List.take_succ_eq_append_getElem hl, List.take_zero, List.nil_append]
    rw [bt_at s 0 h.pos] at hd ⊢
    congr 1
    rw [show 0 * 10 + (((s.data.toList[0]'hl).toNat : Int) - 48).toNat = (((s.data.toList[0]'hl).toNat : Int) - 48).toNat by omega]
    exact byte_of _ hd.1
  | k + 2, _, hk => by
    have h0 : bt s 0 ≠ 48 := fun e => by have := h.head e; omega
    have ih := text_of h (k + 1) (by omega) (by omega)
    have hp := pre_pos h h0 (k + 1) (by omega) (by omega)
    have hd := h.digits (k + 1) (by omega)
    have hl : k + 1 < s.data.toList.length := by simp; omega
    rw [pre_succ, decDigits_snoc _ _ hp (by omega), ih, List.take_succ_eq_append_getElem hl]
    congr 2
    rw [bt_at s (k + 1) (by omega)] at hd ⊢
    exact byte_of _ hd.1

theorem text_back {s : ByteArray} (h : OkText s) : (⟨(decDigits (pre s s.size)).toArray⟩ : ByteArray) = s := by
  rw [text_of h s.size h.pos (Nat.le_refl _), List.take_of_length_le (by simp)]

theorem size_extract (s : ByteArray) {lo hi : Nat} (h : hi ≤ s.size) : (s.extract lo hi).size = hi - lo := by
  rw [ByteArray.size_extract]; omega

theorem bt_extract (s : ByteArray) {lo hi k : Nat} (h : hi ≤ s.size) (hk : k < hi - lo) : bt (s.extract lo hi) k = bt s (lo + k) := by
  have h1 : k < (s.extract lo hi).size := by rw [size_extract s h]; exact hk
  unfold bt
  rw [dif_pos h1, dif_pos (by omega)]
  congr 2
  rw [ByteArray.getElem_extract]

theorem pre_extract (s : ByteArray) {lo hi : Nat} (h : hi ≤ s.size) : ∀ m, m ≤ hi - lo → pre (s.extract lo hi) m = mid s lo m
  | 0, _ => rfl
  | m + 1, hm => by rw [pre_succ, mid_succ, pre_extract s h m (by omega), bt_extract s h (by omega)]

end Go.Proofs.YtfangnjdfmaaoaaDoor.Num
