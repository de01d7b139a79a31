/- Functions as tables of all values. -/
import Derived.Test.YtfodcmcmbjopaabDoorBdHolds
import Derived.Test.YtfodcmcmbjopaabDoorBdFun
namespace Go.Proofs.YtfodcmcmbjopaabDoor
open Go.RowKit Go.Maps

theorem bits_or (i v : Nat) : bitsF (i ||| 1 <<< v) = turn (bitsF i) v true := by
  funext k
  unfold bitsF turn
  rw [Nat.testBit_or, Nat.one_shiftLeft, Nat.testBit_two_pow]
  by_cases h : k = v
  · simp [h]
  · rw [if_neg h, decide_eq_false (fun e => h e.symm), Bool.or_false]

/-- The table of a function. -/
def tabOf (vars : Nat) (g : Fn') : List Bool := (List.range (2 ^ vars)).map fun i => g (bitsF i)
theorem tabOf_len (vars : Nat) (g : Fn') : (tabOf vars g).length = 2 ^ vars := by simp [tabOf]
theorem tabOf_at (vars : Nat) (g : Fn') (i : Nat) (h : i < (tabOf vars g).length) : (tabOf vars g)[i] = g (bitsF i) := by simp [tabOf]

/-- Values of the first variables as a number. -/
def numOf' (f : Nat → Bool) : Nat → Nat
  | 0 => 0
  | n + 1 => numOf' f n + (if f n then 2 ^ n else 0)
theorem numOf_lt (f : Nat → Bool) : ∀ n, numOf' f n < 2 ^ n
  | 0 => by simp [numOf']
  | n + 1 => by
    have := numOf_lt f n
    unfold numOf'
    rw [Nat.pow_succ]
    split <;> omega
theorem numOf_bit (f : Nat → Bool) : ∀ n i, i < n → bitsF (numOf' f n) i = f i
  | n + 1, i, h => by
    have hl := numOf_lt f n
    unfold numOf' bitsF
    by_cases e : i = n
    · subst e
      cases hf : f i with
      | true =>
        rw [if_pos rfl, Nat.add_comm, Nat.testBit_two_pow_add_eq, Nat.testBit_lt_two_pow hl]; rfl
      | false =>
        rw [if_neg (by simp), Nat.add_zero, Nat.testBit_lt_two_pow hl]
    · have hi : i < n := by omega
      have ih := numOf_bit f n i hi
      unfold bitsF at ih
      cases hf : f n with
      | true =>
        rw [if_pos rfl, Nat.add_comm, Nat.testBit_two_pow_add_gt hi, ih]
      | false =>
        rw [if_neg (by simp), Nat.add_zero, ih]

/-- A function hangs on the variables that there are alone. -/
theorem semF_vars {vars : Nat} {ns : List Nd} (hg : Good vars ns) {f g : Nat → Bool} (hfg : ∀ i, i < vars → f i = g i) : ∀ (d : Nat) (h : Int), semF d ns h f = semF d ns h g
  | 0, _ => rfl
  | d + 1, h => by
    unfold semF
    by_cases ht : topOf ns h = 24
    · rw [if_pos ht, if_pos ht]
    · have hv := top_vars hg ht
      have h0 := (topOf_le hg.ranked h).1
      rw [if_neg ht, if_neg ht, hfg (topOf ns h).toNat (by omega), semF_vars hg hfg d, semF_vars hg hfg d]
theorem sem_vars {vars : Nat} {ns : List Nd} (hg : Good vars ns) {f g : Nat → Bool} (hfg : ∀ i, i < vars → f i = g i) (h : Int) : sem ns h f = sem ns h g := semF_vars hg hfg 24 h

/-- Two handles are the same just if their tables are. -/
theorem same_tab {vars : Nat} {ns : List Nd} (hg : Good vars ns) {a b : Int} {p q : Fn'} (ha : hasB ns a = true) (hb : hasB ns b = true) (hp : ∀ f, sem ns a f = p f) (hq : ∀ f, sem ns b f = q f) : a = b ↔ tabOf vars p = tabOf vars q := by
  constructor
  · rintro rfl
    unfold tabOf
    exact List.map_congr_left fun i _ => by rw [← hp, ← hq]
  · intro e
    refine same_handle hg ha hb fun f => ?_
    have hl := numOf_lt f vars
    have hf : ∀ i, i < vars → f i = bitsF (numOf' f vars) i := fun i hi => (numOf_bit f vars i hi).symm
    rw [sem_vars hg hf a, sem_vars hg hf b, hp, hq]
    have h1 := tabOf_at vars p (numOf' f vars) (by rw [tabOf_len]; exact hl)
    have h2 := tabOf_at vars q (numOf' f vars) (by rw [tabOf_len]; exact hl)
    rw [← h1, ← h2]
    simp only [e]
end Go.Proofs.YtfodcmcmbjopaabDoor
