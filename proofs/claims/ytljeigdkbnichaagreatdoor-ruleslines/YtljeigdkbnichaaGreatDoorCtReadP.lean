/- What read tells, plain. -/
import Derived.Test.YtljeigdkbnichaaGreatDoorCtOf
namespace Go.Proofs.YtljeigdkbnichaaGreatDoor
open Go.RowKit Go.Deep Sv

theorem gathF_24 : ∀ (ls : List Ln) (i : Nat) (its out : List It), its.length ≤ 24 → gathF ls i its = .ok out → out.length ≤ 24 ∧ ∀ x ∈ ls, ctCheck x = 0
  | [], i, its, out, h0, h => by cases h; exact ⟨h0, fun x hx => by cases hx⟩
  | x :: r, i, its, out, h0, h => by
    rw [gathF] at h
    split at h
    · cases h
    · rename_i hc
      have hc' : ctCheck x = 0 := Decidable.not_not.1 hc
      have key : ∀ its', its'.length ≤ 24 → gathF r (i + 1) its' = .ok out → out.length ≤ 24 ∧ ∀ y ∈ x :: r, ctCheck y = 0 := fun its' h1 h2 => by
        obtain ⟨g1, g2⟩ := gathF_24 r (i + 1) its' out h1 h2
        exact ⟨g1, fun y hy => by rcases List.mem_cons.1 hy with rfl | hy; exact hc'; exact g2 y hy⟩
      split at h
      · split at h
        · cases h
        · split at h
          · cases h
          · rename_i h8
            exact key _ (by simp; omega) h
      · exact key _ h0 h
theorem newF_ok {ls : List Ln} {its : List It} (h : newF ls = .ok its) : its.length ≤ 24 ∧ ls.length ≤ 100 ∧ ∀ x ∈ ls, ctCheck x = 0 := by
  unfold newF at h
  split at h
  · cases h
  · split at h
    · cases h
    · rename_i its' hg
      split at h
      · cases h
      · cases h
        obtain ⟨h1, h2⟩ := gathF_24 ls 0 [] its' (by simp) hg
        refine ⟨?_, by omega, h2⟩
        unfold sortF
        rw [List.length_mergeSort]
        exact h1
theorem parseF_ok {s : ByteArray} {ls : List Ln} {its : List It} (h : parseF s = .ok (ls, its)) : newF ls = .ok its := by
  unfold parseF at h
  split at h
  · cases h
  · split at h
    · cases h
    · split at h
      · cases h
      · cases h
      · rename_i hn
        cases h
        exact hn
theorem check_names {x : Ln} (h : ctCheck x = 0) : x.name.size ≤ 100000 ∧ x.other.size ≤ 100000 := by
  unfold ctCheck at h
  split at h
  · cases h
  · split at h
    · cases h
    · rename_i h5
      split at h
      · cases h
      · rename_i h6
        have hn : NameOk x.name := by
          apply Classical.byContradiction
          intro hc
          exact h5 (Or.inl hc)
        refine ⟨by have := hn.len; omega, ?_⟩
        by_cases hp : x.pair
        · have ho : NameOk x.other := by
            apply Classical.byContradiction
            intro hc
            exact h5 (Or.inr ⟨hp, hc⟩)
          have := ho.len; omega
        · have : x.other.size = 0 := by
            apply Classical.byContradiction
            intro hc
            exact h6 ⟨hp, hc⟩
          omega

/-- What read tells. -/
noncomputable def readF (s : ByteArray) (most : Nat) : Option (List Ln × List It) :=
  if 1500 < s.size then none else match parseF s with
    | .error _ => none
    | .ok (ls, its) => if 200 < (ofL its ls).length ∨ most < its.length then none else some (ls, its)
end Go.Proofs.YtljeigdkbnichaaGreatDoor
