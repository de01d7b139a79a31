/- Plain arithmetic that the other texts lean on: numbers as digits to a base, and their decimal numerals. No program stands in it. -/
import Derived.Lib.ItoaNum
namespace Go.Proofs.YtcjjekhecjmaeaaGreatDoor.Num
def S (B : Nat) (g : Nat -> Nat) : Nat -> Nat
 | 0 => 0
 | k + 1 => S B g k + g k * B ^ k
theorem S_succ (B : Nat) (g : Nat -> Nat) (k : Nat) : S B g (k + 1) = S B g k + g k * B ^ k := rfl
def dig (ds : List Nat) (i : Nat) : Nat := ds.getD i 0
def val (B : Nat) (ds : List Nat) : Nat := S B (dig ds) ds.length
structure Norm (B : Nat) (ds : List Nat) : Prop where
 small : ∀ i, dig ds i < B
 last : ds.length ≠ 0 -> dig ds (ds.length - 1) ≠ 0
theorem dig_beyond (ds : List Nat) (i : Nat) (h : ds.length <= i) : dig ds i = 0 := by
 unfold dig; simp [List.getD_eq_getElem?_getD, List.getElem?_eq_none h]
theorem dig_append (a : List Nat) (x : Nat) (i : Nat) : dig (a ++ [x]) i = if i < a.length then dig a i else if i = a.length then x else 0 := by
 unfold dig
 simp only [List.getD_eq_getElem?_getD]
 by_cases h : i < a.length
 ·rw [List.getElem?_append_left h, if_pos h]
 ·rw [if_neg h, List.getElem?_append_right (by omega)]
  by_cases e : i = a.length
  ·subst e; simp
  ·rw [if_neg e, List.getElem?_eq_none (by simp; omega)]; rfl
theorem S_congr (B : Nat) (g h : Nat -> Nat) : ∀ k, (∀ i, i < k -> g i = h i) -> S B g k = S B h k
 | 0, _ => rfl
 | k + 1, e => by rw [S_succ, S_succ, S_congr B g h k (fun i hi => e i (by omega)), e k (by omega)]
theorem S_above (B : Nat) (g : Nat -> Nat) (k : Nat) : ∀ m, (∀ i, k <= i -> g i = 0) -> S B g (k + m) = S B g k
 | 0, _ => rfl
 | m + 1, e => by rw [<- Nat.add_assoc, S_succ, S_above B g k m e, e (k + m) (by omega)]; simp
theorem S_val (B : Nat) (ds : List Nat) (n : Nat) (h : ds.length <= n) : S B (dig ds) n = val B ds := by
 obtain ⟨m, rfl⟩ := Nat.exists_eq_add_of_le h
 exact S_above B _ _ m (fun i hi => dig_beyond ds i hi)
theorem S_lt (B : Nat) (g : Nat -> Nat) : ∀ k, (∀ i, g i < B) -> S B g k < B ^ k
 | 0, _ => by simp [S]
 | k + 1, e => by
  have h1 := S_lt B g k e
  have h2 : (g k + 1) * B ^ k <= B * B ^ k := Nat.mul_le_mul_right _ (e k)
  rw [S_succ, Nat.pow_succ, Nat.mul_comm (B ^ k) B]
  rw [Nat.add_mul] at h2
  omega
theorem S_less (B : Nat) (g h : Nat -> Nat) (t : Nat) (hg : ∀ i, g i < B) (ht : g t < h t) : ∀ m, (∀ i, t < i -> i < t + 1 + m -> g i = h i) -> S B g (t + 1 + m) < S B h (t + 1 + m)
 | 0, _ => by
  have h1 := S_lt B g t hg
  have h2 : (g t + 1) * B ^ t <= h t * B ^ t := Nat.mul_le_mul_right _ ht
  rw [Nat.add_mul] at h2
  show S B g t + g t * B ^ t < S B h t + h t * B ^ t
  omega
 | m + 1, e => by
  have h1 := S_less B g h t hg ht m (fun i a b => e i a (by omega))
  rw [<- Nat.add_assoc, S_succ, S_succ, e (t + 1 + m) (by omega) (by omega)]
  omega
def cmpN (x y : Nat) : Int := if x < y then -1 else if y < x then 1 else 0
theorem cmpN_lt {x y : Nat} (h : x < y) : cmpN x y = -1 := by unfold cmpN; rw [if_pos h]
theorem cmpN_gt {x y : Nat} (h : y < x) : cmpN x y = 1 := by unfold cmpN; rw [if_neg (by omega), if_pos h]
theorem cmpN_eq (x : Nat) : cmpN x x = 0 := by unfold cmpN; simp
theorem cmp_lt {B n t : Nat} {a b : List Nat} (ha : ∀ i, dig a i < B) (hn : a.length <= n) (hm : b.length <= n) (htn : t < n) (ht : dig a t < dig b t) (hi : ∀ i, t < i -> i < n -> dig a i = dig b i) : val B a < val B b := by
 obtain ⟨m, rfl⟩ := Nat.exists_eq_add_of_le (show t + 1 <= n from htn)
 have := S_less B (dig a) (dig b) t ha ht m hi
 rwa [S_val B a _ hn, S_val B b _ hm] at this
theorem cmp_eq {B n : Nat} {a b : List Nat} (hn : a.length <= n) (hm : b.length <= n) (hi : ∀ i, i < n -> dig a i = dig b i) : val B a = val B b := by
 rw [<- S_val B a n hn, <- S_val B b n hm]; exact S_congr B _ _ n hi
theorem val_nil (B : Nat) : val B [] = 0 := rfl
theorem dig_nil (i : Nat) : dig [] i = 0 := by unfold dig; simp
theorem val_pos {B : Nat} {ds : List Nat} (h : Norm B ds) (hl : ds.length ≠ 0) : B ^ (ds.length - 1) <= val B ds := by
 obtain ⟨k, hk⟩ : ∃ k, ds.length = k + 1 := ⟨ds.length - 1, by omega⟩
 have h1 := h.last hl
 unfold val
 rw [hk] at h1 ⊢
 rw [S_succ]
 simp only [Nat.add_sub_cancel] at h1 ⊢
 have : 1 * B ^ k <= dig ds k * B ^ k := Nat.mul_le_mul_right _ (by omega)
 omega
theorem val_snoc (B : Nat) (a : List Nat) (x : Nat) : val B (a ++ [x]) = val B a + x * B ^ a.length := by
 unfold val
 rw [List.length_append, List.length_singleton, S_succ]
 rw [S_congr B (dig (a ++ [x])) (dig a) a.length (fun i hi => by rw [dig_append, if_pos hi])]
 rw [dig_append, if_neg (by omega), if_pos rfl]
theorem norm_len {B : Nat} {ds : List Nat} (hB : 2 <= B) (h : Norm B ds) {k : Nat} (hv : val B ds < B ^ k) : ds.length <= k := by
 by_cases hl : ds.length = 0
 ·omega
 ·have h1 := val_pos h hl
  have h2 : B ^ (ds.length - 1) < B ^ k := by omega
  have h3 := (Nat.pow_lt_pow_iff_right (a := B) (by omega)).1 h2
  omega
theorem small_snoc {B x : Nat} {a : List Nat} (ha : ∀ i, dig a i < B) (hx : x < B) (i : Nat) : dig (a ++ [x]) i < B := by
 rw [dig_append]
 have := ha i
 split
 ·exact this
 ·split
  ·exact hx
  ·omega
theorem last_snoc (a : List Nat) (x : Nat) : dig (a ++ [x]) ((a ++ [x]).length - 1) = x := by
 rw [dig_append]; simp
theorem of_step {B n m : Nat} {ds : List Nat} (h : val B ds + m * B ^ ds.length = n) : val B (ds ++ [m % B]) + m / B * B ^ (ds ++ [m % B]).length = n := by
 rw [val_snoc, List.length_append, List.length_singleton, Nat.pow_succ, <- h]
 have h1 := Nat.div_add_mod m B
 generalize B ^ ds.length = p at *
 generalize m / B = q at *
 generalize m % B = r at *
 generalize val B ds = v at *
 subst h1
 grind
theorem of_len {n m : Nat} {ds : List Nat} (hm : 1 <= m) (hn : n <= 9223372036854775807) (h : val 1000000000 ds + m * 1000000000 ^ ds.length = n) : ds.length <= 2 := by
 apply Nat.le_of_not_lt
 intro h3
 have h4 : 1000000000 ^ 3 <= 1000000000 ^ ds.length := Nat.pow_le_pow_right (by omega) h3
 have h5 : 1 * 1000000000 ^ ds.length <= m * 1000000000 ^ ds.length := Nat.mul_le_mul_right _ hm
 omega
theorem cmpN_pos (x y : Nat) : decide (0 < cmpN x y) = decide (y < x) := by
 unfold cmpN
 by_cases h : x < y
 ·rw [if_pos h]; simp; omega
 ·rw [if_neg h]
  by_cases h2 : y < x
  ·rw [if_pos h2]; simp [h2]
  ·rw [if_neg h2]; simp [h2]
theorem fits_step {B j o v : Nat} {g : Nat -> Nat} (h : v = o * B ^ (j + 1) + S B g (j + 1)) : v = (o * B + g j) * B ^ j + S B g j := by
 rw [h, S_succ, Nat.pow_succ]
 generalize B ^ j = p
 generalize S B g j = s
 generalize g j = d
 grind
theorem fits_le {B j o v : Nat} {g : Nat -> Nat} (hB : 0 < B) (h : v = o * B ^ j + S B g j) : o <= v := by
 have h1 : 1 <= B ^ j := Nat.pow_pos hB
 have h2 : o * 1 <= o * B ^ j := Nat.mul_le_mul_left _ h1
 omega
theorem dig_take (ds : List Nat) (k i : Nat) : dig (ds.take k) i = if i < k then dig ds i else 0 := by
 unfold dig
 simp only [List.getD_eq_getElem?_getD, List.getElem?_take]
 split
 ·rfl
 ·rfl
theorem dig_set (ds : List Nat) (k x i : Nat) (h : k < ds.length) : dig (ds.set k x) i = if i = k then x else dig ds i := by
 unfold dig
 simp only [List.getD_eq_getElem?_getD, List.getElem?_set]
 by_cases e : k = i
 ·subst e; simp [h]
 ·rw [if_neg e, if_neg (fun h => e h.symm)]
theorem val_take {B k : Nat} {ds : List Nat} (hk : k <= ds.length) (hz : ∀ i, k <= i -> dig ds i = 0) : val B (ds.take k) = val B ds := by
 unfold val
 rw [List.length_take, Nat.min_eq_left hk]
 obtain ⟨m, hm⟩ := Nat.exists_eq_add_of_le hk
 rw [hm, S_above B (dig ds) k m hz]
 exact S_congr B _ _ k (fun i hi => by rw [dig_take, if_pos hi])
theorem norm_take {B k : Nat} {ds : List Nat} (hB : 0 < B) (sm : ∀ i, dig ds i < B) (hk : k <= ds.length) (hl : k ≠ 0 -> dig ds (k - 1) ≠ 0) : Norm B (ds.take k) := by
 refine ⟨fun i => ?_, fun h => ?_⟩
 ·rw [dig_take]; have := sm i; split <;> omega
 ·rw [List.length_take, Nat.min_eq_left hk] at h ⊢
  rw [dig_take, if_pos (by omega)]
  exact hl h
theorem dig_replicate (n i : Nat) : dig (List.replicate n 0) i = 0 := by
 unfold dig
 simp only [List.getD_eq_getElem?_getD, List.getElem?_replicate]
 split <;> rfl
theorem small_set {B k x : Nat} {out : List Nat} (hk : k < out.length) (sm : ∀ i, dig out i < B) (hx : x < B) (i : Nat) : dig (out.set k x) i < B := by
 rw [dig_set _ _ _ _ hk]; have := sm i; split <;> omega
open Go.Lib
end Go.Proofs.YtcjjekhecjmaeaaGreatDoor.Num
