/- Plain arithmetic that the other texts lean on: numbers as digits to a base, and their decimal numerals. No program stands in it. -/
import Derived.Lib.ItoaNum
namespace Go.Proofs.YtfangnjdfmaaoaaDoor.Num

/-- What the digits g 0 .. g (k - 1) to the base B come to. -/
def S (B : Nat) (g : Nat → Nat) : Nat → Nat
  | 0 => 0
  | k + 1 => S B g k + g k * B ^ k

theorem S_succ (B : Nat) (g : Nat → Nat) (k : Nat) : S B g (k + 1) = S B g k + g k * B ^ k := rfl

/-- The i-th digit, the least first; beyond the last one 0. -/
def dig (ds : List Nat) (i : Nat) : Nat := ds.getD i 0
def val (B : Nat) (ds : List Nat) : Nat := S B (dig ds) ds.length

structure Norm (B : Nat) (ds : List Nat) : Prop where
  small : ∀ i, dig ds i < B
  last : ds.length ≠ 0 → dig ds (ds.length - 1) ≠ 0

theorem dig_beyond (ds : List Nat) (i : Nat) (h : ds.length ≤ i) : dig ds i = 0 := by
  unfold dig; simp [List.getD_eq_getElem?_getD, List.getElem?_eq_none h]

theorem dig_append (a : List Nat) (x : Nat) (i : Nat) : dig (a ++ [x]) i = if i < a.length then dig a i else if i = a.length then x else 0 := by
  unfold dig
  simp only [List.getD_eq_getElem?_getD]
  by_cases h : i < a.length
  · rw [List.getElem?_append_left h, if_pos h]
  · rw [if_neg h, List.getElem?_append_right (by omega)]
    by_cases e : i = a.length
    · subst e; simp
    · rw [if_neg e, List.getElem?_eq_none (by simp; omega)]; rfl

theorem S_congr (B : Nat) (g h : Nat → Nat) : ∀ k, (∀ i, i < k → g i = h i) → S B g k = S B h k
  | 0, _ => rfl
  | k + 1, e => by rw [S_succ, S_succ, S_congr B g h k (fun i hi => e i (by omega)), e k (by omega)]

theorem S_above (B : Nat) (g : Nat → Nat) (k : Nat) : ∀ m, (∀ i, k ≤ i → g i = 0) → S B g (k + m) = S B g k
  | 0, _ => rfl
  | m + 1, e => by rw [← Nat.add_assoc, S_succ, S_above B g k m e, e (k + m) (by omega)]; simp

theorem S_val (B : Nat) (ds : List Nat) (n : Nat) (h : ds.length ≤ n) : S B (dig ds) n = val B ds := by
  obtain ⟨m, rfl⟩ := Nat.exists_eq_add_of_le h
  exact S_above B _ _ m (fun i hi => dig_beyond ds i hi)

theorem S_lt (B : Nat) (g : Nat → Nat) : ∀ k, (∀ i, g i < B) → S B g k < B ^ k
  | 0, _ => by simp [S]
  | k + 1, e => by
    have h1 := S_lt B g k e
    have h2 : (g k + 1) * B ^ k ≤ B * B ^ k := Nat.mul_le_mul_right _ (e k)
    rw [S_succ, Nat.pow_succ, Nat.mul_comm (B ^ k) B]
    rw [Nat.add_mul] at h2
    omega

theorem val_lt {B : Nat} {ds : List Nat} (h : ∀ i, dig ds i < B) : val B ds < B ^ ds.length := S_lt B _ _ h

/-- Digits that part at t, and are like above it: the number with the lesser one is less. -/
theorem S_less (B : Nat) (g h : Nat → Nat) (t : Nat) (hg : ∀ i, g i < B) (ht : g t < h t) : ∀ m, (∀ i, t < i → i < t + 1 + m → g i = h i) → S B g (t + 1 + m) < S B h (t + 1 + m)
  | 0, _ => by
    have h1 := S_lt B g t hg
    have h2 : (g t + 1) * B ^ t ≤ h t * B ^ t := Nat.mul_le_mul_right _ ht
    rw [Nat.add_mul] at h2
    show S B g t + g t * B ^ t < S B h t + h t * B ^ t
    omega
  | m + 1, e => by
    have h1 := S_less B g h t hg ht m (fun i a b => e i a (by omega))
    rw [← Nat.add_assoc, S_succ, S_succ, e (t + 1 + m) (by omega) (by omega)]
    omega

/-- -1, 0, 1: below, like, above. -/
def cmpN (x y : Nat) : Int := if x < y then -1 else if y < x then 1 else 0
theorem cmpN_lt {x y : Nat} (h : x < y) : cmpN x y = -1 := by unfold cmpN; rw [if_pos h]
theorem cmpN_gt {x y : Nat} (h : y < x) : cmpN x y = 1 := by unfold cmpN; rw [if_neg (by omega), if_pos h]
theorem cmpN_eq (x : Nat) : cmpN x x = 0 := by unfold cmpN; simp

theorem cmp_lt {B n t : Nat} {a b : List Nat} (ha : ∀ i, dig a i < B) (hn : a.length ≤ n) (hm : b.length ≤ n) (htn : t < n) (ht : dig a t < dig b t) (hi : ∀ i, t < i → i < n → dig a i = dig b i) : val B a < val B b := by
  obtain ⟨m, rfl⟩ := Nat.exists_eq_add_of_le (show t + 1 ≤ n from htn)
  have := S_less B (dig a) (dig b) t ha ht m hi
  rwa [S_val B a _ hn, S_val B b _ hm] at this

theorem cmp_eq {B n : Nat} {a b : List Nat} (hn : a.length ≤ n) (hm : b.length ≤ n) (hi : ∀ i, i < n → dig a i = dig b i) : val B a = val B b := by
  rw [← S_val B a n hn, ← S_val B b n hm]; exact S_congr B _ _ n hi

theorem val_nil (B : Nat) : val B [] = 0 := rfl

theorem dig_nil (i : Nat) : dig [] i = 0 := by unfold dig; simp

theorem norm_nil {B : Nat} (hB : 0 < B) : Norm B [] := ⟨fun i => by rw [dig_nil]; exact hB, fun h => absurd rfl h⟩

theorem val_pos {B : Nat} {ds : List Nat} (h : Norm B ds) (hl : ds.length ≠ 0) : B ^ (ds.length - 1) ≤ val B ds := by
  obtain ⟨k, hk⟩ : ∃ k, ds.length = k + 1 := ⟨ds.length - 1, by omega⟩
  have h1 := h.last hl
  unfold val
  rw [hk] at h1 ⊢
  rw [S_succ]
  simp only [Nat.add_sub_cancel] at h1 ⊢
  have : 1 * B ^ k ≤ dig ds k * B ^ k := Nat.mul_le_mul_right _ (by omega)
  omega

theorem val_zero {B : Nat} {ds : List Nat} (hB : 0 < B) (h : Norm B ds) : val B ds = 0 ↔ ds.length = 0 := by
  constructor
  · intro e
    by_cases hl : ds.length = 0
    · exact hl
    · have := val_pos h hl
      have : 0 < B ^ (ds.length - 1) := Nat.pow_pos hB
      omega
  · intro e
    obtain rfl : ds = [] := List.length_eq_zero_iff.1 e
    rfl

theorem val_snoc (B : Nat) (a : List Nat) (x : Nat) : val B (a ++ [x]) = val B a + x * B ^ a.length := by
  unfold val
  rw [List.length_append, List.length_singleton, S_succ]
  rw [S_congr B (dig (a ++ [x])) (dig a) a.length (fun i hi => by rw [dig_append, if_pos hi])]
  rw [dig_append, if_neg (by omega), if_pos rfl]

theorem norm_len {B : Nat} {ds : List Nat} (hB : 2 ≤ B) (h : Norm B ds) {k : Nat} (hv : val B ds < B ^ k) : ds.length ≤ k := by
  by_cases hl : ds.length = 0
  · omega
  · have h1 := val_pos h hl
    have h2 : B ^ (ds.length - 1) < B ^ k := by omega
    have h3 := (Nat.pow_lt_pow_iff_right (a := B) (by omega)).1 h2
    omega

theorem small_snoc {B x : Nat} {a : List Nat} (ha : ∀ i, dig a i < B) (hx : x < B) (i : Nat) : dig (a ++ [x]) i < B := by
  rw [dig_append]
  have := ha i
  split
  · exact this
  · split
    · exact hx
    · omega

theorem last_snoc (a : List Nat) (x : Nat) : dig (a ++ [x]) ((a ++ [x]).length - 1) = x := by
  rw [dig_append]; simp

/-- One round of Of: a digit more. -/
theorem of_step {B n m : Nat} {ds : List Nat} (h : val B ds + m * B ^ ds.length = n) : val B (ds ++ [m % B]) + m / B * B ^ (ds ++ [m % B]).length = n := by
  rw [val_snoc, List.length_append, List.length_singleton, Nat.pow_succ, ← h]
  have h1 := Nat.div_add_mod m B
  generalize B ^ ds.length = p at *
  generalize m / B = q at *
  generalize m % B = r at *
  generalize val B ds = v at *
  subst h1
  grind

theorem of_len {n m : Nat} {ds : List Nat} (hm : 1 ≤ m) (hn : n ≤ 9223372036854775807) (h : val 1000000000 ds + m * 1000000000 ^ ds.length = n) : ds.length ≤ 2 := by
  apply Nat.le_of_not_lt
  intro h3
  have h4 : 1000000000 ^ 3 ≤ 1000000000 ^ ds.length := Nat.pow_le_pow_right (by omega) h3
  have h5 : 1 * 1000000000 ^ ds.length ≤ m * 1000000000 ^ ds.length := Nat.mul_le_mul_right _ hm
  omega

theorem cmpN_pos (x y : Nat) : decide (0 < cmpN x y) = decide (y < x) := by
  unfold cmpN
  by_cases h : x < y
  · rw [if_pos h]; simp; omega
  · rw [if_neg h]
    by_cases h2 : y < x
    · rw [if_pos h2]; simp [h2]
    · rw [if_neg h2]; simp [h2]

/-- One round of Fits: what was read of the upper digits, and one more. -/
theorem fits_step {B j o v : Nat} {g : Nat → Nat} (h : v = o * B ^ (j + 1) + S B g (j + 1)) : v = (o * B + g j) * B ^ j + S B g j := by
  rw [h, S_succ, Nat.pow_succ]
  generalize B ^ j = p
  generalize S B g j = s
  generalize g j = d
  grind

theorem fits_le {B j o v : Nat} {g : Nat → Nat} (hB : 0 < B) (h : v = o * B ^ j + S B g j) : o ≤ v := by
  have h1 : 1 ≤ B ^ j := Nat.pow_pos hB
  have h2 : o * 1 ≤ o * B ^ j := Nat.mul_le_mul_left _ h1
  omega

theorem dig_take (ds : List Nat) (k i : Nat) : dig (ds.take k) i = if i < k then dig ds i else 0 := by
  unfold dig
  simp only [List.getD_eq_getElem?_getD, List.getElem?_take]
  split
  · rfl
  · rfl

theorem dig_set (ds : List Nat) (k x i : Nat) (h : k < ds.length) : dig (ds.set k x) i = if i = k then x else dig ds i := by
  unfold dig
  simp only [List.getD_eq_getElem?_getD, List.getElem?_set]
  by_cases e : k = i
  · subst e; simp [h]
  · rw [if_neg e, if_neg (fun h => e h.symm)]

theorem val_take {B k : Nat} {ds : List Nat} (hk : k ≤ ds.length) (hz : ∀ i, k ≤ i → dig ds i = 0) : val B (ds.take k) = val B ds := by
  unfold val
  rw [List.length_take, Nat.min_eq_left hk]
  obtain ⟨m, hm⟩ := Nat.exists_eq_add_of_le hk
  rw [hm, S_above B (dig ds) k m hz]
  exact S_congr B _ _ k (fun i hi => by rw [dig_take, if_pos hi])

theorem norm_take {B k : Nat} {ds : List Nat} (hB : 0 < B) (sm : ∀ i, dig ds i < B) (hk : k ≤ ds.length) (hl : k ≠ 0 → dig ds (k - 1) ≠ 0) : Norm B (ds.take k) := by
  refine ⟨fun i => ?_, fun h => ?_⟩
  · rw [dig_take]; have := sm i; split <;> omega
  · rw [List.length_take, Nat.min_eq_left hk] at h ⊢
    rw [dig_take, if_pos (by omega)]
    exact hl h

theorem dig_replicate (n i : Nat) : dig (List.replicate n 0) i = 0 := by
  unfold dig
  simp only [List.getD_eq_getElem?_getD, List.getElem?_replicate]
  split <;> rfl

/-- One round of an addition: out's k-th digit is x + y + c modulo B. -/
theorem add_step {B k c x y : Nat} {out : List Nat} {T U : Nat → Nat} (hk : k < out.length) (h : S B (dig out) k + c * B ^ k = S B T k + S B U k) (hx : T k = x) (hy : U k = y) :
    S B (dig (out.set k ((x + y + c) % B))) (k + 1) + (x + y + c) / B * B ^ (k + 1) = S B T (k + 1) + S B U (k + 1) := by
  rw [S_succ, S_succ, S_succ, hx, hy]
  rw [S_congr B (dig (out.set k ((x + y + c) % B))) (dig out) k (fun i hi => by rw [dig_set _ _ _ _ hk, if_neg (by omega)])]
  rw [dig_set _ _ _ _ hk, if_pos rfl, Nat.pow_succ]
  have h1 := Nat.div_add_mod (x + y + c) B
  generalize (x + y + c) % B = r at *
  generalize (x + y + c) / B = q at *
  generalize B ^ k = p at *
  generalize S B (dig out) k = s1 at *
  generalize S B T k = s2 at *
  generalize S B U k = s3 at *
  grind

/-- What is carried at the end is 0, if the whole has room. -/
theorem no_carry {B n c s t : Nat} (h : s + c * B ^ n = t) (ht : t < B ^ n) : c = 0 := by
  rcases Nat.eq_zero_or_pos c with e | e
  · exact e
  · have : 1 * B ^ n ≤ c * B ^ n := Nat.mul_le_mul_right _ e
    omega

theorem small_set {B k x : Nat} {out : List Nat} (hk : k < out.length) (sm : ∀ i, dig out i < B) (hx : x < B) (i : Nat) : dig (out.set k x) i < B := by
  rw [dig_set _ _ _ _ hk]; have := sm i; split <;> omega

theorem sub_step {B k c c' d x y : Nat} {out : List Nat} {T U : Nat → Nat} (hk : k < out.length) (h : S B T k + c * B ^ k = S B (dig out) k + S B U k) (hx : T k = x) (hy : U k = y) (hd : x + c' * B = d + (y + c)) :
    S B T (k + 1) + c' * B ^ (k + 1) = S B (dig (out.set k d)) (k + 1) + S B U (k + 1) := by
  rw [S_succ, S_succ, S_succ, hx, hy]
  rw [S_congr B (dig (out.set k d)) (dig out) k (fun i hi => by rw [dig_set _ _ _ _ hk, if_neg (by omega)])]
  rw [dig_set _ _ _ _ hk, if_pos rfl, Nat.pow_succ]
  generalize B ^ k = p at *
  generalize S B (dig out) k = s1 at *
  generalize S B T k = s2 at *
  generalize S B U k = s3 at *
  grind

theorem len_le {B : Nat} {a b : List Nat} (hB : 2 ≤ B) (na : ∀ i, dig a i < B) (nb : Norm B b) (h : val B b ≤ val B a) : b.length ≤ a.length :=
  norm_len hB nb (Nat.lt_of_le_of_lt h (val_lt na))

theorem S_set {B t x : Nat} {out : List Nat} (ht : t < out.length) : ∀ N, t < N → S B (dig (out.set t x)) N + dig out t * B ^ t = S B (dig out) N + x * B ^ t
  | 0, h => by omega
  | N + 1, h => by
    rw [S_succ, S_succ]
    by_cases e : t = N
    · subst e
      rw [S_congr B (dig (out.set t x)) (dig out) t (fun i hi => by rw [dig_set _ _ _ _ ht, if_neg (by omega)])]
      rw [dig_set _ _ _ _ ht, if_pos rfl]; omega
    · have ih := S_set (B := B) (x := x) ht N (by omega)
      rw [dig_set _ _ _ _ ht, if_neg (fun h => e h.symm)]
      omega

/-- One round of a product's row. -/
theorem mul_step {B i j N c x y o : Nat} {out : List Nat} {U : Nat → Nat} {Z : Nat} (hk : i + j < out.length) (hN : i + j < N) (h : S B (dig out) N + c * B ^ (i + j) = Z + x * B ^ i * S B U j) (hy : U j = y) (ho : dig out (i + j) = o) :
    S B (dig (out.set (i + j) ((o + x * y + c) % B))) N + (o + x * y + c) / B * B ^ (i + (j + 1)) = Z + x * B ^ i * S B U (j + 1) := by
  have h1 := Nat.div_add_mod (o + x * y + c) B
  have h2 := S_set (B := B) (x := (o + x * y + c) % B) hk N hN
  rw [ho] at h2
  rw [S_succ, hy, show i + (j + 1) = (i + j) + 1 by omega, Nat.pow_succ]
  have hp : B ^ (i + j) = B ^ i * B ^ j := Nat.pow_add B i j
  rw [hp] at h h2 ⊢
  generalize S B (dig (out.set (i + j) ((o + x * y + c) % B))) N = s' at *
  generalize (o + x * y + c) % B = r at *
  generalize (o + x * y + c) / B = q at *
  generalize B ^ i = p at *
  generalize B ^ j = p2 at *
  generalize S B (dig out) N = s1 at *
  generalize S B U j = s3 at *
  grind

/-- A product's row is done: what is carried goes into the next digit. -/
theorem mul_row {B i m c x : Nat} {out : List Nat} {T : Nat → Nat} {vb : Nat} (hk : i + m < out.length) (h : S B (dig out) (i + m) + c * B ^ (i + m) = S B T i * vb + x * B ^ i * vb) (hx : T i = x) :
    S B (dig (out.set (i + m) c)) (i + 1 + m) = S B T (i + 1) * vb := by
  rw [show i + 1 + m = (i + m) + 1 by omega, S_succ, S_succ, hx]
  rw [S_congr B (dig (out.set (i + m) c)) (dig out) (i + m) (fun t ht => by rw [dig_set _ _ _ _ hk, if_neg (by omega)])]
  rw [dig_set _ _ _ _ hk, if_pos rfl, Nat.add_mul]
  omega

theorem shift_step {B k c x P : Nat} {out : List Nat} {T : Nat → Nat} (hk : k < out.length) (h : S B (dig out) k + c * B ^ k = S B T k * P) (hx : T k = x) :
    S B (dig (out.set k ((x * P + c) % B))) (k + 1) + (x * P + c) / B * B ^ (k + 1) = S B T (k + 1) * P := by
  rw [S_succ, S_succ, hx]
  rw [S_congr B (dig (out.set k ((x * P + c) % B))) (dig out) k (fun i hi => by rw [dig_set _ _ _ _ hk, if_neg (by omega)])]
  rw [dig_set _ _ _ _ hk, if_pos rfl, Nat.pow_succ]
  have h1 := Nat.div_add_mod (x * P + c) B
  generalize (x * P + c) % B = r at *
  generalize (x * P + c) / B = q at *
  generalize B ^ k = p at *
  generalize S B (dig out) k = s1 at *
  generalize S B T k = s2 at *
  grind

/-! ### numerals -/
open Go.Lib

theorem decDigits_snoc (q d : Nat) (hq : 1 ≤ q) (hd : d < 10) : decDigits (q * 10 + d) = decDigits q ++ [UInt8.ofNat (48 + d)] := by
  rw [decDigits, dif_neg (by omega)]
  rw [show (q * 10 + d) / 10 = q by omega, show (q * 10 + d) % 10 = d by omega]

/-- r in k places, noughts ahead. -/
def pad : Nat → Nat → List UInt8
  | 0, _ => []
  | k + 1, r => pad k (r / 10) ++ [UInt8.ofNat (48 + r % 10)]

theorem decDigits_pad (q : Nat) (hq : 1 ≤ q) : ∀ k r, r < 10 ^ k → decDigits (q * 10 ^ k + r) = decDigits q ++ pad k r
  | 0, r, h => by
    obtain rfl : r = 0 := by simpa using h
    simp [pad]
  | k + 1, r, h => by
    rw [Nat.pow_succ] at h ⊢
    have ih := decDigits_pad q hq k (r / 10) (by omega)
    have hp : 1 ≤ 10 ^ k := Nat.one_le_pow _ _ (by decide)
    have hq2 : 1 ≤ q * 10 ^ k := Nat.mul_pos hq hp
    rw [show q * (10 ^ k * 10) + r = (q * 10 ^ k + r / 10) * 10 + r % 10 by rw [← Nat.mul_assoc]; omega]
    rw [decDigits_snoc _ _ (by omega) (by omega), ih, List.append_assoc]
    rfl

theorem pad_length : ∀ k r, (pad k r).length = k
  | 0, _ => rfl
  | k + 1, r => by simp [pad, pad_length k]

theorem decDigits_carry (r : Nat) (h : r < 1000000000) : decDigits (1000000000 + r) = 49 :: pad 9 r := by
  have := decDigits_pad 1 (Nat.le_refl _) 9 r (by simpa using h)
  rw [show 1 * 10 ^ 9 + r = 1000000000 + r by omega, decDigits_one (i := 1) (by decide)] at this
  rw [this]; rfl

theorem decDigits_nine (q r : Nat) (hq : 1 ≤ q) (h : r < 1000000000) : decDigits (q * 1000000000 + r) = decDigits q ++ pad 9 r := by
  have := decDigits_pad q hq 9 r (by simpa using h)
  rwa [show q * 10 ^ 9 + r = q * 1000000000 + r by omega] at this

theorem nine_len (q r : Nat) (hq : 1 ≤ q) (h : r < 1000000000) : (decDigits (q * 1000000000 + r)).length = (decDigits q).length + 9 := by
  rw [decDigits_nine q r hq h, List.length_append, pad_length]

theorem decDigits_zero : decDigits 0 = [48] := by rw [decDigits_one (by decide)]; rfl

theorem nd_le (u : Nat) (h : u < 18446744073709551616) : nDigits u ≤ 20 := by
  by_cases h1 : 1 ≤ u
  · have := numDigits_eq u h1 h; split at this <;> omega
  · rw [nDigits_small (by omega)]; omega

end Go.Proofs.YtfangnjdfmaaoaaDoor.Num
