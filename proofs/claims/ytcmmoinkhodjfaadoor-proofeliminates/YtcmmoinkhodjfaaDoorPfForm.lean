/- Form and Resolve: plain. -/
import Derived.Test.YtcmmoinkhodjfaaDoorClTold
namespace Go.Proofs.YtcmmoinkhodjfaaDoor
open Go.RowKit

/-- A clause's literals as two sets of variables. -/
def sideS (s : Nat × Nat) (x : Int) : Nat × Nat :=
  if 0 < x ∧ x ≤ 24 then (s.1 ||| 2 ^ (x.toNat - 1), s.2) else if -24 ≤ x ∧ x < 0 then (s.1, s.2 ||| 2 ^ ((-x).toNat - 1)) else s
def sidesF (c : List Int) : Nat × Nat := c.foldl sideS (0, 0)
theorem sidesF_snoc (c : List Int) (x : Int) : sidesF (c ++ [x]) = sideS (sidesF c) x := by unfold sidesF; rw [List.foldl_append]; rfl

theorem bit_or (m k i : Nat) : (m ||| 2 ^ k).testBit i = (m.testBit i || decide (k = i)) := by
  rw [Nat.testBit_or, Nat.testBit_two_pow]

theorem fold_bits (c : List Int) (s : Nat × Nat) (i : Nat) : ((c.foldl sideS s).1.testBit i = (s.1.testBit i || decide (i < 24 ∧ (i : Int) + 1 ∈ c))) ∧ ((c.foldl sideS s).2.testBit i = (s.2.testBit i || decide (i < 24 ∧ -((i : Int) + 1) ∈ c))) := by
  induction c generalizing s with
  | nil => simp
  | cons x c ih =>
    rw [List.foldl_cons, (ih _).1, (ih _).2]
    unfold sideS
    by_cases h1 : 0 < x ∧ x ≤ 24
    · rw [if_pos h1]
      have e2 : (-((i : Int) + 1) ∈ x :: c) ↔ -((i : Int) + 1) ∈ c := by
        rw [List.mem_cons]; exact ⟨fun h => h.resolve_left (by omega), Or.inr⟩
      have e1 : (i < 24 ∧ (i : Int) + 1 ∈ x :: c) ↔ (x.toNat - 1 = i ∨ (i < 24 ∧ (i : Int) + 1 ∈ c)) := by
        rw [List.mem_cons]
        constructor
        · rintro ⟨h, h2 | h2⟩
          · exact Or.inl (by omega)
          · exact Or.inr ⟨h, h2⟩
        · rintro (h | ⟨h, h2⟩)
          · exact ⟨by omega, Or.inl (by omega)⟩
          · exact ⟨h, Or.inr h2⟩
      refine ⟨?_, by simp only [e2]⟩
      show ((s.1 ||| 2 ^ (x.toNat - 1)).testBit i || _) = _
      rw [bit_or, Bool.or_assoc, ← Bool.decide_or]
      simp only [e1]
    · rw [if_neg h1]
      by_cases h2 : -24 ≤ x ∧ x < 0
      · rw [if_pos h2]
        have e2 : ((i : Int) + 1 ∈ x :: c) ↔ (i : Int) + 1 ∈ c := by
          rw [List.mem_cons]; exact ⟨fun h => h.resolve_left (by omega), Or.inr⟩
        have e1 : (i < 24 ∧ -((i : Int) + 1) ∈ x :: c) ↔ ((-x).toNat - 1 = i ∨ (i < 24 ∧ -((i : Int) + 1) ∈ c)) := by
          rw [List.mem_cons]
          constructor
          · rintro ⟨h, h3 | h3⟩
            · exact Or.inl (by omega)
            · exact Or.inr ⟨h, h3⟩
          · rintro (h | ⟨h, h3⟩)
            · exact ⟨by omega, Or.inl (by omega)⟩
            · exact ⟨h, Or.inr h3⟩
        refine ⟨by simp only [e2], ?_⟩
        show ((s.2 ||| 2 ^ ((-x).toNat - 1)).testBit i || _) = _
        rw [bit_or, Bool.or_assoc, ← Bool.decide_or]
        simp only [e1]
      · rw [if_neg h2]
        have e1 : (i < 24 ∧ (i : Int) + 1 ∈ x :: c) ↔ (i < 24 ∧ (i : Int) + 1 ∈ c) := by
          rw [List.mem_cons]
          exact ⟨fun ⟨h, h3⟩ => ⟨h, h3.resolve_left (by omega)⟩, fun ⟨h, h3⟩ => ⟨h, Or.inr h3⟩⟩
        have e2 : (i < 24 ∧ -((i : Int) + 1) ∈ x :: c) ↔ (i < 24 ∧ -((i : Int) + 1) ∈ c) := by
          rw [List.mem_cons]
          exact ⟨fun ⟨h, h3⟩ => ⟨h, h3.resolve_left (by omega)⟩, fun ⟨h, h3⟩ => ⟨h, Or.inr h3⟩⟩
        simp only [e1, e2, and_self]
theorem sides_yes (c : List Int) (i : Nat) : (sidesF c).1.testBit i = decide (i < 24 ∧ (i : Int) + 1 ∈ c) := by
  have := (fold_bits c (0, 0) i).1
  simpa [sidesF] using this
theorem sides_no (c : List Int) (i : Nat) : (sidesF c).2.testBit i = decide (i < 24 ∧ -((i : Int) + 1) ∈ c) := by
  have := (fold_bits c (0, 0) i).2
  simpa [sidesF] using this

/-- Both are sets of the variables that there are. -/
def Small (s : Nat × Nat) : Prop := s.1 < 2 ^ 24 ∧ s.2 < 2 ^ 24
theorem small_of {m : Nat} (h : ∀ i, 24 ≤ i → m.testBit i = false) : m < 2 ^ 24 := Nat.lt_pow_two_of_testBit m h
theorem small_bit {m : Nat} (h : m < 2 ^ 24) {i : Nat} (hi : 24 ≤ i) : m.testBit i = false := Nat.testBit_lt_two_pow (Nat.lt_of_lt_of_le h (Nat.pow_le_pow_right (by omega) hi))
theorem sides_small (c : List Int) : Small (sidesF c) :=
  ⟨small_of fun i hi => by rw [sides_yes]; simp; omega, small_of fun i hi => by rw [sides_no]; simp; omega⟩

def alwaysF (s : Nat × Nat) : Bool := decide (s.1 &&& s.2 ≠ 0)
theorem always_iff {s : Nat × Nat} : alwaysF s = true ↔ ∃ i, s.1.testBit i = true ∧ s.2.testBit i = true := by
  unfold alwaysF
  rw [decide_eq_true_eq]
  constructor
  · intro h
    obtain ⟨i, hi⟩ := Nat.exists_testBit_of_ne_zero h
    rw [Nat.testBit_and, Bool.and_eq_true] at hi
    exact ⟨i, hi⟩
  · rintro ⟨i, h1, h2⟩ h
    have : (s.1 &&& s.2).testBit i = true := by rw [Nat.testBit_and, h1, h2]; rfl
    rw [h] at this
    simp at this

/-- The literal of a variable. -/
def litOf (s : Nat × Nat) (i : Nat) : Option Int := if s.1.testBit i = true then some ((i : Int) + 1) else if s.2.testBit i = true then some (-((i : Int) + 1)) else none
def clauseK (s : Nat × Nat) (k : Nat) : List Int := (List.range k).filterMap (litOf s)
def clauseF (s : Nat × Nat) : List Int := clauseK s 24
theorem clauseK_succ (s : Nat × Nat) (k : Nat) : clauseK s (k + 1) = clauseK s k ++ (litOf s k).toList := by
  unfold clauseK
  rw [List.range_succ, List.filterMap_append]
  congr 1
theorem clauseK_len (s : Nat × Nat) (k : Nat) : (clauseK s k).length ≤ k := by
  unfold clauseK
  refine Nat.le_trans (List.length_filterMap_le _ _) ?_
  simp
theorem mem_clauseF {s : Nat × Nat} (ha : alwaysF s = false) {x : Int} : x ∈ clauseF s ↔ ∃ i : Nat, i < 24 ∧ ((x = (i : Int) + 1 ∧ s.1.testBit i = true) ∨ (x = -((i : Int) + 1) ∧ s.2.testBit i = true)) := by
  unfold clauseF clauseK
  rw [List.mem_filterMap]
  constructor
  · rintro ⟨i, hi, h⟩
    rw [List.mem_range] at hi
    unfold litOf at h
    by_cases h1 : s.1.testBit i = true
    · rw [if_pos h1] at h
      exact ⟨i, hi, Or.inl ⟨(Option.some.inj h).symm, h1⟩⟩
    · rw [if_neg h1] at h
      by_cases h2 : s.2.testBit i = true
      · rw [if_pos h2] at h
        exact ⟨i, hi, Or.inr ⟨(Option.some.inj h).symm, h2⟩⟩
      · rw [if_neg h2] at h; cases h
  · rintro ⟨i, hi, ⟨e, h1⟩ | ⟨e, h2⟩⟩
    · exact ⟨i, List.mem_range.2 hi, by unfold litOf; rw [if_pos h1, e]⟩
    · refine ⟨i, List.mem_range.2 hi, ?_⟩
      unfold litOf
      rw [if_neg, if_pos h2, e]
      intro h1
      have := always_iff.2 ⟨i, h1, h2⟩
      rw [ha] at this; cases this
theorem lits_clauseF {s : Nat × Nat} : Lits 24 (clauseF s) := fun x hx => by
  unfold clauseF clauseK at hx
  obtain ⟨i, hi, h⟩ := List.mem_filterMap.1 hx
  rw [List.mem_range] at hi
  rw [litB_iff]
  unfold litOf at h
  by_cases h1 : s.1.testBit i = true
  · rw [if_pos h1] at h
    have := Option.some.inj h
    omega
  · rw [if_neg h1] at h
    by_cases h2 : s.2.testBit i = true
    · rw [if_pos h2] at h
      have := Option.some.inj h
      omega
    · rw [if_neg h2] at h; cases h

theorem alwaysF_both {c : List Int} (hl : Lits 24 c) : alwaysF (sidesF c) = true ↔ ∃ x ∈ c, -x ∈ c := by
  rw [always_iff]
  constructor
  · rintro ⟨i, h1, h2⟩
    rw [sides_yes, decide_eq_true_eq] at h1
    rw [sides_no, decide_eq_true_eq] at h2
    exact ⟨_, h1.2, h2.2⟩
  · rintro ⟨x, hx, hn⟩
    have h := litB_iff.1 (hl x hx)
    by_cases hp : 0 < x
    · refine ⟨x.toNat - 1, ?_, ?_⟩
      · rw [sides_yes, decide_eq_true_eq]; exact ⟨by omega, by rw [show ((x.toNat - 1 : Nat) : Int) + 1 = x by omega]; exact hx⟩
      · rw [sides_no, decide_eq_true_eq]; exact ⟨by omega, by rw [show ((x.toNat - 1 : Nat) : Int) + 1 = x by omega]; exact hn⟩
    · refine ⟨(-x).toNat - 1, ?_, ?_⟩
      · rw [sides_yes, decide_eq_true_eq]; exact ⟨by omega, by rw [show (((-x).toNat - 1 : Nat) : Int) + 1 = -x by omega]; exact hn⟩
      · rw [sides_no, decide_eq_true_eq]; exact ⟨by omega, by rw [show (((-x).toNat - 1 : Nat) : Int) + 1 = -x by omega, Int.neg_neg]; exact hx⟩
/-- A clause in form has just its literals. -/
theorem mem_form {c : List Int} (hl : Lits 24 c) (ha : alwaysF (sidesF c) = false) {x : Int} : x ∈ clauseF (sidesF c) ↔ x ∈ c := by
  rw [mem_clauseF ha]
  constructor
  · rintro ⟨i, hi, ⟨e, h⟩ | ⟨e, h⟩⟩
    · rw [sides_yes, decide_eq_true_eq] at h; rw [e]; exact h.2
    · rw [sides_no, decide_eq_true_eq] at h; rw [e]; exact h.2
  · intro hx
    have h := litB_iff.1 (hl x hx)
    by_cases hp : 0 < x
    · refine ⟨x.toNat - 1, by omega, Or.inl ⟨by omega, ?_⟩⟩
      rw [sides_yes, decide_eq_true_eq]; exact ⟨by omega, by rw [show ((x.toNat - 1 : Nat) : Int) + 1 = x by omega]; exact hx⟩
    · refine ⟨(-x).toNat - 1, by omega, Or.inr ⟨by omega, ?_⟩⟩
      rw [sides_no, decide_eq_true_eq]; exact ⟨by omega, by rw [show (((-x).toNat - 1 : Nat) : Int) + 1 = -x by omega, Int.neg_neg]; exact hx⟩

/-- Two sets are told by their bits. -/
theorem sides_ext {s t : Nat × Nat} (h : ∀ i, s.1.testBit i = t.1.testBit i ∧ s.2.testBit i = t.2.testBit i) : s = t :=
  Prod.ext (Nat.eq_of_testBit_eq fun i => (h i).1) (Nat.eq_of_testBit_eq fun i => (h i).2)
theorem sides_clauseF {s : Nat × Nat} (hs : Small s) (ha : alwaysF s = false) : sidesF (clauseF s) = s := by
  refine sides_ext fun i => ⟨?_, ?_⟩
  · rw [sides_yes, Bool.eq_iff_iff, decide_eq_true_eq, mem_clauseF ha]
    constructor
    · rintro ⟨_, j, hj, ⟨e, h⟩ | ⟨e, h⟩⟩
      · rw [show i = j by omega]; exact h
      · omega
    · intro h
      have hi : i < 24 := by
        rcases Nat.lt_or_ge i 24 with h1 | h1
        · exact h1
        · rw [small_bit hs.1 h1] at h; cases h
      exact ⟨hi, i, hi, Or.inl ⟨rfl, h⟩⟩
  · rw [sides_no, Bool.eq_iff_iff, decide_eq_true_eq, mem_clauseF ha]
    constructor
    · rintro ⟨_, j, hj, ⟨e, h⟩ | ⟨e, h⟩⟩
      · omega
      · rw [show i = j by omega]; exact h
    · intro h
      have hi : i < 24 := by
        rcases Nat.lt_or_ge i 24 with h1 | h1
        · exact h1
        · rw [small_bit hs.2 h1] at h; cases h
      exact ⟨hi, i, hi, Or.inr ⟨rfl, h⟩⟩

/-- Without one bit. -/
def offBit (m v : Nat) : Nat := m ^^^ (m &&& 2 ^ v)
theorem off_bit (m v i : Nat) : (offBit m v).testBit i = (m.testBit i && !decide (v = i)) := by
  unfold offBit
  rw [Nat.testBit_xor, Nat.testBit_and, Nat.testBit_two_pow]
  cases m.testBit i <;> by_cases hj : v = i <;> simp [hj]
theorem off_is {m v : Nat} (hm : m < 2 ^ 24) (hv : v < 24) : m &&& (18446744073709551615 - 2 ^ v) = offBit m v := by
  apply Nat.eq_of_testBit_eq
  intro i
  have hp : 2 ^ v < 2 ^ 64 := Nat.pow_lt_pow_right (by omega) (by omega)
  have e : 18446744073709551615 - 2 ^ v = 2 ^ 64 - (2 ^ v + 1) := by omega
  rw [off_bit, Nat.testBit_and, e, Nat.testBit_two_pow_sub_succ hp, Nat.testBit_two_pow]
  by_cases hi : i < 24
  · rw [decide_eq_true (show i < 64 by omega)]; simp
  · rw [small_bit hm (by omega)]; simp
/-- What follows from two clauses. -/
def resolveF (a b : Nat × Nat) (v : Nat) : Nat × Nat := (offBit a.1 v ||| b.1, a.2 ||| offBit b.2 v)
theorem resolve_small {a b : Nat × Nat} {v : Nat} (ha : Small a) (hb : Small b) : Small (resolveF a b v) :=
  ⟨small_of fun i hi => by show (_ ||| _ : Nat).testBit i = _; rw [Nat.testBit_or, off_bit, small_bit ha.1 hi, small_bit hb.1 hi]; rfl,
   small_of fun i hi => by show (_ ||| _ : Nat).testBit i = _; rw [Nat.testBit_or, off_bit, small_bit ha.2 hi, small_bit hb.2 hi]; rfl⟩
def allL (a b : List Int) (v : Nat) : List Int := a.filter (fun x => x != (v : Int) + 1) ++ b.filter (fun x => x != -((v : Int) + 1))
theorem sides_resolve (a b : List Int) (v : Nat) : sidesF (allL a b v) = resolveF (sidesF a) (sidesF b) v := by
  refine sides_ext fun i => ⟨?_, ?_⟩
  · show _ = (_ ||| _ : Nat).testBit i
    rw [Nat.testBit_or, off_bit, sides_yes, sides_yes, sides_yes, Bool.eq_iff_iff]
    unfold allL
    simp only [decide_eq_true_eq, Bool.or_eq_true, Bool.and_eq_true, List.mem_append, List.mem_filter, bne_iff_ne, ne_eq, Bool.not_eq_true', decide_eq_false_iff_not]
    constructor
    · rintro ⟨h, ⟨h1, h2⟩ | ⟨h1, h2⟩⟩
      · exact Or.inl ⟨⟨h, h1⟩, by omega⟩
      · exact Or.inr ⟨h, h1⟩
    · rintro (⟨⟨h, h1⟩, h2⟩ | ⟨h, h1⟩)
      · exact ⟨h, Or.inl ⟨h1, by omega⟩⟩
      · exact ⟨h, Or.inr ⟨h1, by omega⟩⟩
  · show _ = (_ ||| _ : Nat).testBit i
    rw [Nat.testBit_or, off_bit, sides_no, sides_no, sides_no, Bool.eq_iff_iff]
    unfold allL
    simp only [decide_eq_true_eq, Bool.or_eq_true, Bool.and_eq_true, List.mem_append, List.mem_filter, bne_iff_ne, ne_eq, Bool.not_eq_true', decide_eq_false_iff_not]
    constructor
    · rintro ⟨h, ⟨h1, h2⟩ | ⟨h1, h2⟩⟩
      · exact Or.inl ⟨h, h1⟩
      · exact Or.inr ⟨⟨h, h1⟩, by omega⟩
    · rintro (⟨h, h1⟩ | ⟨⟨h, h1⟩, h2⟩)
      · exact ⟨h, Or.inl ⟨h1, by omega⟩⟩
      · exact ⟨h, Or.inr ⟨h1, by omega⟩⟩
theorem lits_allL {v : Int} {a b : List Int} {k : Nat} (ha : Lits v a) (hb : Lits v b) : Lits v (allL a b k) := fun x hx => by
  rcases List.mem_append.1 hx with h | h
  · exact ha x ((List.mem_filter.1 h).1)
  · exact hb x ((List.mem_filter.1 h).1)
/-- What Resolve tells: the error's number (0: none), and the clause. -/
def resF (a b : List Int) (v : Int) : Int × List Int :=
  if 0 ≤ v ∧ v < 24 ∧ v + 1 ∈ a ∧ -(v + 1) ∈ b then (if alwaysF (resolveF (sidesF a) (sidesF b) v.toNat) = true then (8, []) else (0, clauseF (resolveF (sidesF a) (sidesF b) v.toNat))) else (1, [])
end Go.Proofs.YtcmmoinkhodjfaaDoor
