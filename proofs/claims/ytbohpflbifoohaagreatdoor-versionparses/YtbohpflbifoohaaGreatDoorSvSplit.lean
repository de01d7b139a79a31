/- What strings.Split makes is the pieces. -/
import Derived.Test.YtbohpflbifoohaaGreatDoorSvTextF
import Derived.Lib.Split
import Derived.Lib.CountLaws
namespace Go.Proofs.YtbohpflbifoohaaGreatDoor
open Go.RowKit Go.Shelf Sv

theorem ba_ext {s t : ByteArray} (h : s.data.toList = t.data.toList) : s = t := by
  rw [bytes_of h, ← bytes_of (s := t) rfl]
theorem ext_list' (s : ByteArray) (i j : Nat) : (s.extract i j).data.toList = (s.data.toList.take j).drop i := by
  conv => lhs; rw [bytes_of (s := s) rfl]
  exact ext_list _ _ _
theorem sub_head (s : ByteArray) (k j : Nat) (h : k + j ≤ s.size) : (s.extract k s.size).extract 0 j = s.extract k (k + j) := by
  apply ba_ext
  rw [ext_list', ext_list', ext_list', List.drop_zero, List.take_drop, List.take_take]
  congr 2
  omega
theorem sub_tail (s : ByteArray) (k i : Nat) : (s.extract k s.size).extract i (s.extract k s.size).size = s.extract (k + i) s.size := by
  apply ba_ext
  rw [Lib.extract_to_end, Lib.extract_to_end, Lib.extract_to_end, List.drop_drop]
theorem split_cut (s m : ByteArray) (hm : 1 ≤ m.size) : ∀ (f k : Nat), s.size ≤ k + f → k ≤ s.size → Lib.splitB m 0 (Lib.countB (s.extract k s.size) m) (s.extract k s.size) = (cutB s m f k).map (·.2) := by
  intro f
  induction f with
  | zero =>
    intro k h1 h2
    have hz : (s.extract k s.size).size = 0 := by simp; omega
    have hx : Lib.indexB (s.extract k s.size) m = -1 := by
      show Lib.index (s.extract k s.size).data.toList m.data.toList = -1
      have h0 : (s.extract k s.size).data.toList = [] := by rw [Lib.extract_to_end]; exact List.drop_eq_nil_of_le (by simp; omega)
      have hne : m.data.toList ≠ [] := fun e => by
        have : m.data.toList.length = m.size := by simp
        rw [e] at this; simp at this; omega
      rw [h0]
      cases hm' : m.data.toList with
      | nil => exact absurd hm' hne
      | cons a r => simp [Lib.index]
    rw [Lib.splitB_miss _ _ _ _ hx]; rfl
  | succ f ih =>
    intro k h1 h2
    have hge := Lib.index_ge (s.extract k s.size).data.toList m.data.toList
    by_cases hneg : Lib.index (s.extract k s.size).data.toList m.data.toList < 0
    · have hx : Lib.indexB (s.extract k s.size) m = -1 := by
        show Lib.index (s.extract k s.size).data.toList m.data.toList = -1
        omega
      rw [Lib.splitB_miss _ _ _ _ hx, cutB_end hneg]; rfl
    · obtain ⟨j, hj⟩ := Int.eq_ofNat_of_zero_le (Int.not_lt.1 hneg)
      have hx : Lib.indexB (s.extract k s.size) m = (j : Int) := hj
      have hr := index_room (s.extract k s.size).data.toList m.data.toList (by rw [hj]; omega)
      rw [hj] at hr
      have hl : (s.extract k s.size).data.toList.length = s.size - k := by rw [Lib.extract_to_end]; simp
      have hml : m.data.toList.length = m.size := by simp
      rw [hl, hml, Int.toNat_natCast] at hr
      rw [Lib.countB_hit _ _ j hm hx, Nat.add_comm 1, Lib.splitB_hit _ _ _ _ j hx, cutB_step hj, List.map_cons, Nat.add_zero, sub_tail, ← Nat.add_assoc, sub_head s k j (by omega), ih _ (by omega) (by omega)]
end Go.Proofs.YtbohpflbifoohaaGreatDoor
