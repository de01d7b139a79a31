/- What Check says, and what is assumed: plain. -/
import Derived.Test.YtcmmoinkhodjfaaDoorClTold
namespace Go.Proofs.YtcmmoinkhodjfaaDoor
open Go.RowKit Go.Deep

/-- What is assumed, told in order, each once; none: it may not be. -/
def assumeF (v : Int) : List Int → List Int → Option (List Int)
  | told, [] => some told
  | told, x :: xs => if litB v x = true ∧ -x ∉ told then (if x ∈ told then assumeF v told xs else assumeF v (told ++ [x]) xs) else none

theorem check_fine {v : Int} {l : List (List Int)} (h : (checkF v l).1 = 0) : 0 ≤ v ∧ v ≤ 24 ∧ l.length ≤ 200 ∧ LitsL v l ∧ checkF v l = (0, -1) ∧ ∀ c ∈ l, c.length ≤ 48 := by
  unfold checkF at h ⊢
  by_cases h1 : v < 0 ∨ 24 < v
  · rw [if_pos h1] at h; cases h
  · by_cases h2 : 200 < l.length
    · rw [if_neg h1, if_pos h2] at h; cases h
    · rw [if_neg h1, if_neg h2] at h ⊢
      cases h3 : l.findIdx? (badC v) with
      | some i =>
        rw [h3] at h
        simp only [codeC] at h
        split at h <;> omega
      | none =>
        rw [List.findIdx?_eq_none_iff] at h3
        refine ⟨by omega, by omega, by omega, fun c hc x hx => ?_, rfl, fun c hc => ?_⟩
        · have := h3 c hc
          unfold badC at this
          rw [Bool.or_eq_false_iff, List.any_eq_false] at this
          simpa using this.2 x hx
        · have := h3 c hc
          unfold badC at this
          rw [Bool.or_eq_false_iff] at this
          have := of_decide_eq_false this.1
          omega

theorem Spread.det {l : List (List Int)} {told t t' : List Int} {b b' : Int} (h : Spread l told t b) (h' : Spread l told t' b') : t = t' ∧ b = b' := by
  induction h with
  | stop e => obtain ⟨rfl, rfl⟩ := h'.at_stop e; exact ⟨rfl, rfl⟩
  | step e hx _ ih => exact ih (h'.at_step e hx)

/-- Literals, each once, are few. -/
theorem nodup_small {t : List Int} (hn : t.Nodup) (hl : Lits 24 t) : t.length ≤ 48 := by
  have h0 : (0 : Int) ∉ t := fun h2 => (litB_iff.1 (hl 0 h2)).1 rfl
  have := (List.nodup_cons.2 ⟨h0, hn⟩).length_le_of_subset (l₂ := (List.range 49).map (fun i : Nat => (i : Int) - 24)) (fun x hx => by
    rcases List.mem_cons.1 hx with rfl | hx
    · exact List.mem_map.2 ⟨24, List.mem_range.2 (by omega), by omega⟩
    · have := litB_iff.1 (hl x hx)
      exact List.mem_map.2 ⟨(x + 24).toNat, List.mem_range.2 (by omega), by omega⟩)
  simp at this
  omega
end Go.Proofs.YtcmmoinkhodjfaaDoor
