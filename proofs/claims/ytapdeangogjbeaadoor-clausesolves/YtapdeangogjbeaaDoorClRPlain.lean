/- The reference's search, plain: a spread is a row of steps; the number of what is told. -/
import Derived.Test.YtapdeangogjbeaaDoorClSolve
namespace Go.Proofs.YtapdeangogjbeaaDoor
open Go.RowKit Go.Deep

theorem run_spread {v : Nat} {l : List (List Int)} {told t : List Int} {b : Int} {ds : List (Int × List Int)} {prf : List (List Int)} (h : Spread (l ++ prf) told t b) {r : Res} (hr : Run v l ⟨told, ds, prf⟩ r) : Run v l ⟨t, ds, prf⟩ r ∧ nextF t (l ++ prf) = (b, 0) := by
  induction h with
  | stop e => exact ⟨hr, e⟩
  | step e hx _ ih => exact ih (hr.at_go (step_tell (s := ⟨_, ds, prf⟩) e hx))

/-- A spread keeps the state good. -/
theorem good_spread {v : Nat} {l : List (List Int)} (hv : v ≤ 24) (hl : LitsL v l) {told t : List Int} {b : Int} {ds : List (Int × List Int)} {prf : List (List Int)} (h : Spread (l ++ prf) told t b) : Good v ⟨told, ds, prf⟩ → Good v ⟨t, ds, prf⟩ ∧ mu ⟨t, ds, prf⟩ ≤ mu ⟨told, ds, prf⟩ := by
  induction h with
  | stop e => intro hg; exact ⟨hg, Nat.le_refl _⟩
  | step e hx _ ih =>
    intro hg
    obtain ⟨g, m⟩ := step_good hv hl hg (step_tell (s := ⟨_, ds, prf⟩) e hx)
    obtain ⟨g2, m2⟩ := ih g
    exact ⟨g2, Nat.le_trans m2 (Nat.le_of_lt m)⟩

/-- What is true of what is told, one by one. -/
def orS (n : Nat) (x : Int) : Nat := if 0 < x then n ||| 2 ^ (x.toNat - 1) else n
def orF (xs : List Int) : Nat := xs.foldl orS 0
theorem orF_snoc (xs : List Int) (x : Int) : orF (xs ++ [x]) = orS (orF xs) x := by unfold orF; rw [List.foldl_append]; rfl
theorem orF_bit : ∀ (n : Nat) (xs : List Int), xs.length = n → ∀ i, (orF xs).testBit i = decide (((i : Int) + 1) ∈ xs)
  | 0, xs, h, i => by
    obtain rfl := List.length_eq_zero_iff.1 h
    simp [orF]
  | n + 1, xs, h, i => by
    have hne : xs ≠ [] := fun e => by rw [e] at h; cases h
    obtain ⟨d, x, rfl⟩ : ∃ d x, xs = d ++ [x] := ⟨_, _, (List.dropLast_concat_getLast hne).symm⟩
    have ih := orF_bit n d (by simpa using h) i
    rw [orF_snoc]
    unfold orS
    by_cases hp : 0 < x
    · rw [if_pos hp, Nat.testBit_or, ih, Nat.testBit_two_pow, Bool.eq_iff_iff]
      simp only [Bool.or_eq_true, decide_eq_true_eq, List.mem_append, List.mem_singleton]
      constructor
      · rintro (h1 | h1)
        · exact Or.inl h1
        · exact Or.inr (by omega)
      · rintro (h1 | h1)
        · exact Or.inl h1
        · exact Or.inr (by omega)
    · rw [if_neg hp, ih, Bool.eq_iff_iff]
      simp only [decide_eq_true_eq, List.mem_append, List.mem_singleton]
      constructor
      · exact Or.inl
      · rintro (h1 | h1)
        · exact h1
        · omega
theorem orF_num {v : Nat} {t : List Int} (hv : v ≤ 24) (hl : Lits v t) : orF t = numF t 24 := by
  apply Nat.eq_of_testBit_eq
  intro i
  rw [orF_bit _ t rfl, numF_bit, Bool.eq_iff_iff]
  simp only [decide_eq_true_eq, Bool.and_eq_true]
  constructor
  · intro h
    have := litB_iff.1 (hl _ h)
    exact ⟨by omega, by unfold tv; rw [if_pos h]; omega⟩
  · rintro ⟨_, h⟩
    unfold tv at h
    split at h
    · assumption
    · split at h <;> omega
theorem orF_lt {v : Nat} {t : List Int} (hv : v ≤ 24) (hl : Lits v t) : orF t < 16777216 := by
  rw [orF_num hv hl]
  exact numF_lt t 24

/-- The least variable of which nothing is told, one by one. -/
theorem least_hit {v : Nat} {told : List Int} {k : Nat} (h0 : ∀ i, i < k → tv told i ≠ 0) (hk : k < v) (h1 : tv told k = 0) : leastF v told = (k : Int) := by
  rcases least_is (v := v) (told := told) with ⟨_, h⟩ | ⟨j, e, hj, h2, h3⟩
  · exact absurd h1 (h k hk)
  · have : j = k := by
      rcases Nat.lt_trichotomy j k with h | h | h
      · exact absurd h2 (h0 j h)
      · exact h
      · exact absurd h1 (h3 k h)
    rw [← this]; exact e
theorem least_none {v : Nat} {told : List Int} (h0 : ∀ i, i < v → tv told i ≠ 0) : leastF v told = -1 := by
  rcases least_is (v := v) (told := told) with ⟨e, _⟩ | ⟨j, _, hj, h2, _⟩
  · exact e
  · exact absurd h2 (h0 j hj)
end Go.Proofs.YtapdeangogjbeaaDoor
