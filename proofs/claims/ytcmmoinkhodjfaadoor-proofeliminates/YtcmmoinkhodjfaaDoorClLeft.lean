/- What is left of a clause, as the reference has it: plain. -/
import Derived.Test.YtcmmoinkhodjfaaDoorClRow
import Derived.Test.YtcmmoinkhodjfaaDoorClPlain
namespace Go.Proofs.YtcmmoinkhodjfaaDoor
open Go.RowKit Go.Deep

def leftS (told : List Int) (s : List Int × Bool) (x : Int) : List Int × Bool := if x ∈ told then (s.1, true) else if -x ∉ told ∧ x ∉ s.1 then (s.1 ++ [x], s.2) else s
def leftF (told c : List Int) : List Int × Bool := c.foldl (leftS told) ([], false)
theorem leftF_snoc (told c : List Int) (x : Int) : leftF told (c ++ [x]) = leftS told (leftF told c) x := by unfold leftF; rw [List.foldl_append]; rfl
structure LeftIs (told c : List Int) (r : List Int × Bool) : Prop where
  holds : r.2 = true ↔ ∃ x ∈ c, x ∈ told
  left : ∀ y, y ∈ r.1 ↔ y ∈ c ∧ y ∉ told ∧ -y ∉ told
  nodup : r.1.Nodup
theorem left_is (told c : List Int) : LeftIs told c (leftF told c) := by
  have key : ∀ n c, c.length = n → LeftIs told c (leftF told c) := by
    intro n
    induction n with
    | zero =>
      intro c hc
      obtain rfl := List.length_eq_zero_iff.1 hc
      exact ⟨by simp [leftF], fun y => by simp [leftF], by simp [leftF]⟩
    | succ n ih =>
      intro c hc
      have hne : c ≠ [] := fun e => by rw [e] at hc; cases hc
      obtain ⟨d, x, rfl⟩ : ∃ d x, c = d ++ [x] := ⟨_, _, (List.dropLast_concat_getLast hne).symm⟩
      have h := ih d (by simpa using hc)
      rw [leftF_snoc]
      generalize leftF told d = r at *
      unfold leftS
      by_cases h1 : x ∈ told
      · rw [if_pos h1]
        refine ⟨⟨fun _ => ⟨x, by simp, h1⟩, fun _ => rfl⟩, fun y => ?_, h.nodup⟩
        rw [h.left y]
        constructor
        · rintro ⟨q1, q2, q3⟩; exact ⟨List.mem_append.2 (Or.inl q1), q2, q3⟩
        · rintro ⟨q1, q2, q3⟩
          simp only [List.mem_append, List.mem_singleton] at q1
          rcases q1 with q1 | q1
          · exact ⟨q1, q2, q3⟩
          · rw [q1] at q2; exact absurd h1 q2
      · rw [if_neg h1]
        by_cases h2 : -x ∉ told ∧ x ∉ r.1
        · rw [if_pos h2]
          refine ⟨?_, fun y => ?_, ?_⟩
          · rw [h.holds]
            constructor
            · rintro ⟨y, q1, q2⟩; exact ⟨y, List.mem_append.2 (Or.inl q1), q2⟩
            · rintro ⟨y, q1, q2⟩
              simp only [List.mem_append, List.mem_singleton] at q1
              rcases q1 with q1 | q1
              · exact ⟨y, q1, q2⟩
              · rw [q1] at q2; exact absurd q2 h1
          · simp only [List.mem_append, List.mem_singleton, h.left y]
            constructor
            · rintro (⟨q1, q2, q3⟩ | q)
              · exact ⟨Or.inl q1, q2, q3⟩
              · rw [q]; exact ⟨Or.inr rfl, h1, h2.1⟩
            · rintro ⟨q1 | q1, q2, q3⟩
              · exact Or.inl ⟨q1, q2, q3⟩
              · exact Or.inr q1
          · rw [List.nodup_append]
            exact ⟨h.nodup, by simp, fun y hy z hz e => h2.2 (by rw [List.mem_singleton] at hz; rw [← hz, ← e]; exact hy)⟩
        · rw [if_neg h2]
          refine ⟨?_, fun y => ?_, h.nodup⟩
          · rw [h.holds]
            constructor
            · rintro ⟨y, q1, q2⟩; exact ⟨y, List.mem_append.2 (Or.inl q1), q2⟩
            · rintro ⟨y, q1, q2⟩
              simp only [List.mem_append, List.mem_singleton] at q1
              rcases q1 with q1 | q1
              · exact ⟨y, q1, q2⟩
              · rw [q1] at q2; exact absurd q2 h1
          · rw [h.left y]
            simp only [List.mem_append, List.mem_singleton]
            constructor
            · rintro ⟨q1, q2, q3⟩; exact ⟨Or.inl q1, q2, q3⟩
            · rintro ⟨q1 | q1, q2, q3⟩
              · exact ⟨q1, q2, q3⟩
              · rw [q1] at q3 ⊢
                have : x ∈ r.1 := Classical.byContradiction fun hn => h2 ⟨q3, hn⟩
                exact (h.left x).1 this
  exact key _ c rfl

theorem only_left {told c : List Int} (hc : Cons told) : onlyF told c = if (leftF told c).2 = true ∨ 1 < (leftF told c).1.length then (0, false) else if (leftF told c).1.length = 0 then (0, true) else ((leftF told c).1.getD 0 0, true) := by
  have ho := only_is (c := c) hc
  have hl := left_is told c
  generalize leftF told c = r at *
  generalize onlyF told c = o at *
  obtain ⟨left, holds⟩ := r
  simp only at *
  cases ho with
  | none h =>
    have h1 : ¬ holds = true := fun e => by obtain ⟨x, hx, ht⟩ := hl.holds.1 e; exact (h x hx).1 ht
    have h2 : left = [] := List.eq_nil_iff_forall_not_mem.2 fun y hy => by
      obtain ⟨q1, _, q3⟩ := (hl.left y).1 hy
      exact q3 (h y q1).2
    subst h2
    rw [if_neg (by simp [h1]), if_pos (by simp)]
  | one hx n1 n2 h =>
    rename_i x
    have h1 : ¬ holds = true := fun e => by
      obtain ⟨y, hy, ht⟩ := hl.holds.1 e
      by_cases e' : y = x
      · rw [e'] at ht; exact n1 ht
      · exact (h y hy e').1 ht
    have hxl : x ∈ left := (hl.left x).2 ⟨hx, n1, n2⟩
    have hall : ∀ y ∈ left, y = x := fun y hy => Classical.byContradiction fun e' => by
      obtain ⟨q1, _, q3⟩ := (hl.left y).1 hy
      exact q3 (h y q1 e').2
    have hlen : left = [x] := by
      match left, hxl, hall, hl.nodup with
      | [y], _, ha, _ => rw [ha y (by simp)]
      | y :: z :: r, _, ha, hn =>
        exfalso
        have e1 := ha y (by simp)
        have e2 := ha z (by simp)
        rw [e1, e2] at hn
        simp at hn
    subst hlen
    rw [if_neg (by simp [h1]), if_neg (by simp)]
    rfl
  | held hx h =>
    rw [if_pos (Or.inl (hl.holds.2 ⟨_, hx, h⟩))]
  | two hx hy hne n1 n2 n3 n4 =>
    rename_i x y
    have hxl : x ∈ left := (hl.left x).2 ⟨hx, n1, n2⟩
    have hyl : y ∈ left := (hl.left y).2 ⟨hy, n3, n4⟩
    have : 1 < left.length := by
      match left, hxl, hyl with
      | [z], h1, h2 => simp at h1 h2; exact absurd (h1.trans h2.symm) hne
      | z :: z' :: r, _, _ => simp
    rw [if_pos (Or.inr this)]
theorem leftF_len (told c : List Int) : (leftF told c).1.length ≤ c.length := by
  have key : ∀ (c : List Int) (s : List Int × Bool), (c.foldl (leftS told) s).1.length ≤ s.1.length + c.length := by
    intro c
    induction c with
    | nil => intro s; simp
    | cons x c ih =>
      intro s
      rw [List.foldl_cons]
      refine Nat.le_trans (ih _) ?_
      have : (leftS told s x).1.length ≤ s.1.length + 1 := by
        unfold leftS
        split
        · simp
        · split
          · simp
          · simp
      rw [List.length_cons]; omega
  have := key c ([], false)
  simpa [leftF] using this
theorem left_small {told c : List Int} (hl : Lits 24 c) : (leftF told c).1.length ≤ 48 :=
  nodup_small (left_is told c).nodup fun x hx => hl x (((left_is told c).left x).1 hx).1
end Go.Proofs.YtcmmoinkhodjfaaDoor
