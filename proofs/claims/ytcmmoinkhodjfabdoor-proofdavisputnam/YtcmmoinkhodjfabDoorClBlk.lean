/- What is told, as a block. -/
import Derived.Test.YtcmmoinkhodjfabDoorClSide
import Derived.Test.YtcmmoinkhodjfabDoorClRow
namespace Go.Proofs.YtcmmoinkhodjfabDoor
open Go.RowKit Go.Deep

/-- What is told, as 24 cells. -/
def tvl (told : List Int) : List Value := (List.range 24).map fun i => Value.int .i8 (tv told i)
def tvs (told : List Int) : Array Value := (tvl told).toArray
theorem tvl_at (told : List Int) (i : Nat) (h : i < 24) : (tvl told)[i]? = some (.int .i8 (tv told i)) := by simp [tvl, h]
theorem tvl_len (told : List Int) : (tvl told).length = 24 := by simp [tvl]
theorem vals_of {W : World} {b : Nat} {t : TypeId} {pre post : List Value} {told : List Int} (h : Blk W b t (pre ++ tvl told ++ post).toArray) : ValsAt W ⟨b, pre.length, none⟩ told := by
  refine ⟨h.lt, fun i hi => ?_, fun i hi => ?_⟩
  · rw [add_plain, h.cell, List.getElem?_toArray, List.append_assoc, List.getElem?_append_right (by omega), Nat.add_sub_cancel_left, List.getElem?_append_left (by rw [tvl_len]; exact hi), tvl_at _ _ hi]
  · rw [add_plain]; exact h.frozen _
theorem tvl_tell {told : List Int} {x : Int} (hx : litB 24 x = true) (hn : -x ∉ told) : (tvl told).set (tellAt x) (.int .i8 (tellV x)) = tvl (told ++ [x]) := by
  rw [litB_iff] at hx
  apply List.ext_getElem?
  intro i
  rw [List.getElem?_set, tvl_len]
  by_cases hi : i < 24
  · rw [tvl_at _ _ hi, tvl_at _ _ hi, tv_tell hn]
    unfold tellAt tellV
    by_cases hp : 0 < x
    · rw [if_pos hp, if_pos hp]
      by_cases e : x.toNat - 1 = i
      · rw [if_pos e, if_pos (by omega), if_pos (by omega)]
      · rw [if_neg e, if_neg (by omega), if_neg (by omega)]
    · rw [if_neg hp, if_neg hp]
      by_cases e : (-x).toNat - 1 = i
      · rw [if_pos e, if_pos (by omega), if_neg (by omega), if_pos (by omega)]
      · rw [if_neg e, if_neg (by omega), if_neg (by omega)]
  · rw [List.getElem?_eq_none (by rw [tvl_len]; omega), List.getElem?_eq_none (by rw [tvl_len]; omega)]
    have : tellAt x < 24 := by unfold tellAt; split <;> omega
    rw [if_neg (by omega)]
theorem blk_tell {W : World} {b : Nat} {t : TypeId} {pre post : List Value} {told : List Int} {x : Int} (hx : litB 24 x = true) (hn : -x ∉ told) (h : Blk W b t (pre ++ tvl told ++ post).toArray) :
    Blk (W.setCell ((⟨b, pre.length, none⟩ : Addr).add (tellAt x)) (.int .i8 (tellV x))) b t (pre ++ tvl (told ++ [x]) ++ post).toArray := by
  have := h.set (i := pre.length + tellAt x) (v := .int .i8 (tellV x))
  have ht : tellAt x < 24 := by rw [litB_iff] at hx; unfold tellAt; split <;> omega
  rw [add_plain]
  rw [List.setIfInBounds_toArray, List.append_assoc, List.set_append_right _ _ (by omega), Nat.add_sub_cancel_left, List.set_append_left _ _ (by rw [tvl_len]; exact ht), tvl_tell hx hn, ← List.append_assoc] at this
  exact this

end Go.Proofs.YtcmmoinkhodjfabDoor
