/- Robinson: plain. -/
import Derived.Test.YtcmmoinkhodjfabDoorPfElim
import Derived.Test.YtcmmoinkhodjfabDoorClHolds
namespace Go.Proofs.YtcmmoinkhodjfabDoor
open Go.RowKit

theorem holdK_iff {vals : Nat} {c : List Int} (hl : Lits 24 c) : holdK vals c = true ↔ holdS vals (sidesF c) := by
  rw [hold_sides hl]
  unfold holdK
  rw [List.any_eq_true]
  constructor
  · rintro ⟨x, hx, h⟩
    unfold litK at h
    rw [Bool.and_eq_true] at h
    exact ⟨x, hx, h.2⟩
  · rintro ⟨x, hx, h⟩
    exact ⟨x, hx, by unfold litK; rw [hl x hx, h]; rfl⟩
/-- What follows from two clauses holds where both do. -/
theorem robinson {vals : Nat} {p q : List Int} {v : Int} {c : List Int} (hp : Lits 24 p) (hq : Lits 24 q) (h : resF p q v = (0, c)) (h1 : holdK vals p = true) (h2 : holdK vals q = true) : holdK vals c = true := by
  unfold resF at h
  split at h
  · split at h
    · cases h
    · rename_i hc ha
      injection h with _ h
      subst h
      have ha' : alwaysF (resolveF (sidesF p) (sidesF q) v.toNat) = false := by simpa using ha
      rw [holdK_iff lits_clauseF, sides_clauseF (resolve_small (sides_small p) (sides_small q)) ha']
      exact hold_resolve ((holdK_iff hp).1 h1) ((holdK_iff hq).1 h2)
  · cases h
theorem res_lits {p q : List Int} {v : Int} : Lits 24 (resF p q v).2 := by
  unfold resF
  split
  · split
    · exact lits_nil _
    · exact lits_clauseF
  · exact lits_nil _
theorem res_len {p q : List Int} {v : Int} : (resF p q v).2.length ≤ 24 := by
  unfold resF
  split
  · split
    · simp
    · exact clauseK_len _ _
  · simp
end Go.Proofs.YtcmmoinkhodjfabDoor
