/- What is told is so: plain. -/
import Derived.Test.YtcmmoinkhodjfabDoorClStep
import Derived.Test.YtcmmoinkhodjfabDoorClHolds
namespace Go.Proofs.YtcmmoinkhodjfabDoor
open Go.RowKit Go.Deep

theorem litH_neg' {vals : Nat} {x : Int} (hx : x ≠ 0) : litH vals (-x) = !litH vals x := by
  unfold litH
  by_cases hp : 0 < x
  · rw [if_neg (by omega), if_pos hp, Int.neg_neg]
  · rw [if_pos (by omega), if_neg hp, Bool.not_not]
def Sat (vals : Nat) (xs : List Int) : Prop := ∀ x ∈ xs, litH vals x = true
def SatL (vals : Nat) (l : List (List Int)) : Prop := ∀ c ∈ l, ∃ x ∈ c, litH vals x = true

theorem satL_of {vals : Nat} {l : List (List Int)} (h : allK vals l = true) : SatL vals l := fun c hc => by
  unfold allK at h
  rw [List.all_eq_true] at h
  have := h c hc
  unfold holdK at this
  obtain ⟨x, hx, h2⟩ := List.any_eq_true.1 this
  unfold litK at h2
  rw [Bool.and_eq_true] at h2
  exact ⟨x, hx, h2.2⟩
theorem all_of {vals : Nat} {l : List (List Int)} (hl : LitsL 24 l) (h : SatL vals l) : allK vals l = true := by
  unfold allK
  rw [List.all_eq_true]
  intro c hc
  obtain ⟨x, hx, h2⟩ := h c hc
  unfold holdK
  exact List.any_eq_true.2 ⟨x, hx, by unfold litK; rw [hl c hc x hx, h2]; rfl⟩

/-- A step of spreading is so; where a clause can't hold there are no such values. -/
theorem next_sound {v : Int} {l : List (List Int)} (hl : LitsL v l) {told : List Int} (hc : Cons told) {vals : Nat} (hs : SatL vals l) (ht : Sat vals told) : (0 ≤ (nextF told l).1 → (nextF told l).2 ≠ 0) ∧ ((nextF told l).2 ≠ 0 → litH vals (nextF told l).2 = true) := by
  have hn := next_is (l := l) hc
  generalize nextF told l = r at hn
  cases hn with
  | none => exact ⟨fun h => by simp at h, fun h => absurd rfl h⟩
  | bad hk h =>
    exfalso
    obtain ⟨x, hx, hh⟩ := hs _ (getD_mem hk)
    have h0 := (litB_iff.1 (hl _ (getD_mem hk) x hx)).1
    have := ht _ (h x hx).2
    rw [litH_neg' h0, hh] at this
    cases this
  | one hk hx h0 h1 h =>
    rename_i k x
    refine ⟨fun _ => (litB_iff.1 (hl _ (getD_mem hk) _ hx)).1, fun _ => ?_⟩
    obtain ⟨y, hy, hh⟩ := hs _ (getD_mem hk)
    by_cases e : y = x
    · rw [← e]; exact hh
    · exfalso
      have hy0 := (litB_iff.1 (hl _ (getD_mem hk) y hy)).1
      have := ht _ (h y hy e).2
      rw [litH_neg' hy0, hh] at this
      cases this

theorem sat_tell {vals : Nat} {told : List Int} {x : Int} (h : Sat vals told) (hx : litH vals x = true) : Sat vals (told ++ [x]) := fun y hy => by
  simp only [List.mem_append, List.mem_singleton] at hy
  rcases hy with hy | hy
  · exact h y hy
  · rw [hy]; exact hx

theorem Spread.sound {v : Int} {l : List (List Int)} (hl : LitsL v l) {told t : List Int} {b : Int} (h : Spread l told t b) (hc : Cons told) (hlt : Lits v told) {vals : Nat} (hs : SatL vals l) (ht : Sat vals told) : Sat vals t ∧ b < 0 := by
  induction h with
  | stop e =>
    have := next_sound hl hc hs ht
    rw [e] at this
    exact ⟨ht, by
      rename_i i
      by_cases h : 0 ≤ i
      · exact absurd rfl (this.1 h)
      · omega⟩
  | step e hx _ ih =>
    obtain ⟨_, _, _, h4, h5⟩ := next_step hl hc hlt e hx
    have := (next_sound hl hc hs ht).2
    rw [e] at this
    exact ih h4 h5 (sat_tell ht (this hx))

theorem assume_sub {v : Int} : ∀ {am t told : List Int}, assumeF v t am = some told → ∀ x ∈ told, x ∈ t ∨ x ∈ am
  | [], t, told, h, x, hx => by simp [assumeF] at h; subst h; exact Or.inl hx
  | y :: am, t, told, h, x, hx => by
    unfold assumeF at h
    by_cases h1 : litB v y = true ∧ -y ∉ t
    · rw [if_pos h1] at h
      by_cases h2 : y ∈ t
      · rw [if_pos h2] at h
        rcases assume_sub h x hx with h3 | h3
        · exact Or.inl h3
        · exact Or.inr (List.mem_cons_of_mem _ h3)
      · rw [if_neg h2] at h
        rcases assume_sub h x hx with h3 | h3
        · simp only [List.mem_append, List.mem_singleton] at h3
          rcases h3 with h3 | h3
          · exact Or.inl h3
          · exact Or.inr (by rw [h3]; exact List.mem_cons_self)
        · exact Or.inr (List.mem_cons_of_mem _ h3)
    · rw [if_neg h1] at h; cases h
end Go.Proofs.YtcmmoinkhodjfabDoor
