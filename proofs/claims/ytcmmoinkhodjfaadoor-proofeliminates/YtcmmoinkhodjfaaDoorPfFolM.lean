/- Follow: plain. -/
import Derived.Test.YtcmmoinkhodjfaaDoorPfForm
import Derived.Test.YtcmmoinkhodjfaaDoorClPlain
namespace Go.Proofs.YtcmmoinkhodjfaaDoor
open Go.RowKit

/-- A step: two clauses by number, and the variable. -/
structure Stp where
  a : Int
  b : Int
  v : Int
  deriving Inhabited
def stepK (K : List (List Int)) (s : Stp) : Int × List Int :=
  if 0 ≤ s.a ∧ s.a < K.length ∧ 0 ≤ s.b ∧ s.b < K.length then resF (K.getD s.a.toNat []) (K.getD s.b.toNat []) s.v else (2, [])
/-- What is known behind so many steps; none: one may not be. -/
def folK (l : List (List Int)) (st : List Stp) : Nat → Option (List (List Int))
  | 0 => some l
  | k + 1 => match folK l st k with
    | none => none
    | some K => if (stepK K (st.getD k ⟨0, 0, 0⟩)).1 = 0 then some (K ++ [(stepK K (st.getD k ⟨0, 0, 0⟩)).2]) else none
theorem folK_len {l : List (List Int)} {st : List Stp} : ∀ {k : Nat} {K : List (List Int)}, folK l st k = some K → K.length = l.length + k ∧ ∃ o, K = l ++ o
  | 0, K, h => by
    simp [folK] at h
    subst h
    exact ⟨rfl, [], by simp⟩
  | k + 1, K, h => by
    unfold folK at h
    cases hk : folK l st k with
    | none => rw [hk] at h; cases h
    | some K' =>
      rw [hk] at h
      simp only at h
      split at h
      · simp only [Option.some.injEq] at h
        subst h
        obtain ⟨h1, o, h2⟩ := folK_len hk
        refine ⟨by rw [List.length_append, List.length_singleton, h1]; omega, o ++ [(stepK K' (st.getD k ⟨0, 0, 0⟩)).2], ?_⟩
        rw [h2, List.append_assoc]
      · cases h
theorem folK_step {l : List (List Int)} {st : List Stp} {k : Nat} {K : List (List Int)} (h : folK l st k = some K) (h0 : (stepK K (st.getD k ⟨0, 0, 0⟩)).1 = 0) : folK l st (k + 1) = some (K ++ [(stepK K (st.getD k ⟨0, 0, 0⟩)).2]) := by
  unfold folK; rw [h]; simp only; rw [if_pos h0]
theorem folK_stop {l : List (List Int)} {st : List Stp} {k : Nat} {K : List (List Int)} (h : folK l st k = some K) (h0 : (stepK K (st.getD k ⟨0, 0, 0⟩)).1 ≠ 0) : folK l st (k + 1) = none := by
  unfold folK; rw [h]; simp only; rw [if_neg h0]
theorem folK_more {l : List (List Int)} {st : List Stp} {k : Nat} (h : folK l st k = none) : ∀ j, folK l st (k + j) = none
  | 0 => h
  | j + 1 => by rw [← Nat.add_assoc]; unfold folK; rw [folK_more h j]
/-- What Follow tells: the error and its place, or what is known in the end. -/
inductive FolR (l : List (List Int)) (st : List Stp) : Int → Int → List (List Int) → Prop
  | bad {k : Nat} {K : List (List Int)} (hk : k < st.length) (h : folK l st k = some K) (h0 : (stepK K (st.getD k ⟨0, 0, 0⟩)).1 ≠ 0) : FolR l st (stepK K (st.getD k ⟨0, 0, 0⟩)).1 (k : Int) []
  | good {o : List (List Int)} (h : folK l st st.length = some (l ++ o)) : FolR l st 0 (-1) o
theorem FolR.det {l : List (List Int)} {st : List Stp} {m p m' p' : Int} {o o' : List (List Int)} (h : FolR l st m p o) (h' : FolR l st m' p' o') : m = m' ∧ p = p' ∧ o = o' := by
  cases h with
  | bad hk h h0 =>
    rename_i k K
    cases h' with
    | bad hk' h' h0' =>
      rename_i k' K'
      have e : k = k' := by
        rcases Nat.lt_trichotomy k k' with e | e | e
        · have := folK_more (folK_stop h h0) (k' - (k + 1))
          rw [show k + 1 + (k' - (k + 1)) = k' by omega, h'] at this; cases this
        · exact e
        · have := folK_more (folK_stop h' h0') (k - (k' + 1))
          rw [show k' + 1 + (k - (k' + 1)) = k by omega, h] at this; cases this
      subst e
      rw [h] at h'
      cases h'
      exact ⟨rfl, rfl, rfl⟩
    | good h' =>
      have := folK_more (folK_stop h h0) (st.length - (k + 1))
      rw [show k + 1 + (st.length - (k + 1)) = st.length by omega, h'] at this; cases this
  | good h =>
    cases h' with
    | bad hk' h' h0' =>
      rename_i k' K'
      have := folK_more (folK_stop h' h0') (st.length - (k' + 1))
      rw [show k' + 1 + (st.length - (k' + 1)) = st.length by omega, h] at this; cases this
    | good h' =>
      rw [h] at h'
      injection h' with h'
      exact ⟨rfl, rfl, List.append_cancel_left h'⟩
theorem step_len {K : List (List Int)} {s : Stp} : (stepK K s).2.length ≤ 24 := by
  unfold stepK
  split
  · unfold resF
    split
    · split
      · simp
      · exact clauseK_len _ _
    · simp
  · simp
theorem fol_big {l : List (List Int)} {st : List Stp} (hl : ∀ c ∈ l, c.length ≤ 9223372036854775807) : ∀ {k : Nat} {K : List (List Int)}, folK l st k = some K → ∀ c ∈ K, c.length ≤ 9223372036854775807
  | 0, K, h => by
    simp [folK] at h
    subst h
    exact hl
  | k + 1, K, h => by
    unfold folK at h
    cases hk : folK l st k with
    | none => rw [hk] at h; cases h
    | some K' =>
      rw [hk] at h
      simp only at h
      split at h
      · simp only [Option.some.injEq] at h
        subst h
        intro c hc
        rcases List.mem_append.1 hc with hc | hc
        · exact fol_big hl hk c hc
        · rw [List.mem_singleton] at hc
          subst hc
          have := step_len (K := K') (s := st.getD k ⟨0, 0, 0⟩)
          omega
      · cases h
end Go.Proofs.YtcmmoinkhodjfaaDoor
