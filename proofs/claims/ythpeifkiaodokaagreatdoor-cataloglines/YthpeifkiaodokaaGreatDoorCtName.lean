/- Names. -/
import Derived.Test.YthpeifkiaodokaaGreatDoorRows
import Derived.WalkKit
import Derived.WalkSpells
import Derived.WalkLawsBesides
import Derived.Lib.Hide
import Derived.PlainAid
namespace Go.Proofs.YthpeifkiaodokaaGreatDoor
open Go.RowKit Go.PlainAid

structure NameOk (s : ByteArray) : Prop where
  pos : 0 < s.size
  len : s.size ≤ 12
  first : 97 ≤ bt s 0 ∧ bt s 0 ≤ 122
  any : s.toList ≠ [97, 110, 121]
  none : s.toList ≠ [110, 111, 110, 101]
  each : ∀ k, k < s.size → (97 ≤ bt s k ∧ bt s k ≤ 122) ∨ (48 ≤ bt s k ∧ bt s k ≤ 57) ∨ bt s k = 45

theorem bytes_eq {s t : ByteArray} (h : s.toList = t.toList) : s = t := by
  apply ByteArray.ext
  rw [ByteArray.toList_eq, ByteArray.toList_eq] at h
  exact Array.ext' h
theorem bytes_empty {s : ByteArray} (h : s.size = 0) : s = ⟨#[]⟩ := by
  apply ByteArray.ext
  exact Array.eq_empty_of_size_eq_zero h
theorem bytes_not_empty {s : ByteArray} (h : 0 < s.size) : s.toList.isEmpty = false := by
  rw [ByteArray.toList_eq]
  cases e : s.data.toList with
  | nil =>
    have : s.data.toList.length = 0 := by rw [e]; rfl
    have h2 : s.data.toList.length = s.size := by simp
    omega
  | cons a l => rfl

def NameAns (s : ByteArray) (e : Ending) : Prop := (NameOk s → e = .returned (.bool true)) ∧ (¬ NameOk s → e = .returned (.bool false))

theorem byte_ways (b : Int) (h0 : 0 ≤ b) (h1 : b ≤ 255) : (b < 45) ∨ (b = 45) ∨ (45 < b ∧ b < 48) ∨ (48 ≤ b ∧ b ≤ 57) ∨ (57 < b ∧ b < 97) ∨ (97 ≤ b ∧ b ≤ 122) ∨ 122 < b := by omega

set_option maxRecDepth 100000 in
set_option maxHeartbeats 1000000 in
theorem name_closed (s : ByteArray) (w : World) (h : s = ⟨#[]⟩ ∨ s = ⟨#[97, 110, 121]⟩ ∨ s = ⟨#[110, 111, 110, 101]⟩) :
    Calls Tryz.prog 153 #[.string s] w fun e w' => e = .returned (.bool false) ∧ w = w' := by
  rcases h with rfl | rfl | rfl
  all_goals
    go_enter Tryz.func153, Tryz.ntmps153
    go_wp2
    go_ret
    exact ⟨rfl, rfl⟩
set_option maxRecDepth 100000 in
set_option maxHeartbeats 1000000 in
theorem refn_closed (s : ByteArray) (w : World) (h : s = ⟨#[]⟩ ∨ s = ⟨#[97, 110, 121]⟩ ∨ s = ⟨#[110, 111, 110, 101]⟩) :
    Calls Tryz.prog 121 #[.string s] w fun e w' => e = .returned (.bool false) ∧ w = w' := by
  rcases h with rfl | rfl | rfl
  all_goals
    go_enter Tryz.func121, Tryz.ntmps121
    go_wp2
    go_ret
    exact ⟨rfl, rfl⟩

set_option maxRecDepth 100000 in
set_option maxHeartbeats 1000000 in
theorem name_long (s : ByteArray) (w : World) (h : 12 < s.size) :
    Calls Tryz.prog 153 #[.string s] w fun e w' => e = .returned (.bool false) ∧ w = w' := by
  have he := bytes_not_empty (s := s) (by omega)
  go_enter Tryz.func153, Tryz.ntmps153
  go_wp2
  go_ret
  exact ⟨rfl, rfl⟩
set_option maxRecDepth 100000 in
set_option maxHeartbeats 1000000 in
theorem refn_long (s : ByteArray) (w : World) (h : 12 < s.size) :
    Calls Tryz.prog 121 #[.string s] w fun e w' => e = .returned (.bool false) ∧ w = w' := by
  have hb := get_bt s
  go_enter Tryz.func121, Tryz.ntmps121
  go_wp2
  go_ret
  exact ⟨rfl, rfl⟩
set_option maxRecDepth 100000 in
set_option maxHeartbeats 1000000 in
theorem refn_first (s : ByteArray) (w : World) (h0 : 0 < s.size) (h1 : s.size ≤ 12) (h : bt s 0 < 97 ∨ 122 < bt s 0) :
    Calls Tryz.prog 121 #[.string s] w fun e w' => e = .returned (.bool false) ∧ w = w' := by
  have hb := get_bt s
  have hn := bt_nonneg s 0
  have hl := bt_le s 0
  rcases h with h | h
  all_goals
    go_enter Tryz.func121, Tryz.ntmps121
    go_wp2
    go_ret
    exact ⟨rfl, rfl⟩

set_option maxRecDepth 100000 in
set_option maxHeartbeats 2000000 in
theorem name_main (s : ByteArray) (w : World) (h0 : 0 < s.size) (h1 : s.size ≤ 12) (ha : (s.toList == [97, 110, 121]) = false) (hn : (s.toList == [110, 111, 110, 101]) = false) :
    Calls Tryz.prog 153 #[.string s] w fun e w' => NameAns s e ∧ w = w' := by
  have hb := get_bt s
  have he := bytes_not_empty h0
  have HA := Lib.hid ha
  have HN := Lib.hid hn
  go_enter Tryz.func153, Tryz.ntmps153
  go_wp2_with fail
  clear ha hn he
  go_loop [23] (fun i => ∃ k : Nat, k ≤ s.size ∧ i = .int .i64 k ∧ ∀ j, j < k → (97 ≤ bt s j ∧ bt s j ≤ 122) ∨ (j ≠ 0 ∧ ((48 ≤ bt s j ∧ bt s j ≤ 57) ∨ bt s j = 45))) (fun i => s.size - (intOf i).toNat)
  case atStart => exact ⟨0, Nat.zero_le _, rfl, fun j h => by omega⟩
  case round =>
    obtain ⟨k, hk, rfl, hall⟩ := hrel
    have HALL := Lib.hid hall
    clear hall
    have hb0 := bt_nonneg s k
    have hb1 := bt_le s k
    by_cases hlt : k < s.size
    · rcases byte_ways _ hb0 hb1 with h | h | h | h | h | h | h <;> rcases Nat.eq_zero_or_pos k with hz | hz <;> (try subst hz)
      all_goals go_wp2
      all_goals
        first
        | (exfalso; rename_i hx; simp at hx; omega)
        | (go_ret
           exact ⟨⟨fun h => by have := h.each _ hlt; have := h.first; omega, fun _ => rfl⟩, rfl⟩)
        | (go_round
           case rel =>
            refine ⟨_ + 1, hlt, by go_num, fun j hj => ?_⟩
            rcases Nat.lt_succ_iff_lt_or_eq.1 hj with e | e
            · exact HALL.out j e
            · rw [e]; omega
           case measure => simp [intOf]; omega)
    · obtain rfl : k = s.size := by omega
      clear hb0 hb1
      have hok : NameOk s := ⟨h0, h1, by have := HALL.out 0 h0; omega, by have := HA.out; simpa using this, by have := HN.out; simpa using this, fun j hj => by have := HALL.out j hj; omega⟩
      go_wp2
      go_ret
      exact ⟨⟨fun _ => rfl, fun h => absurd hok h⟩, rfl⟩

set_option maxRecDepth 100000 in
set_option maxHeartbeats 2000000 in
theorem refn_main (s : ByteArray) (w : World) (h0 : 0 < s.size) (h1 : s.size ≤ 12) (hf0 : 97 ≤ bt s 0) (hf1 : bt s 0 ≤ 122) (ha : (s.toList == [97, 110, 121]) = false) (hn : (s.toList == [110, 111, 110, 101]) = false) :
    Calls Tryz.prog 121 #[.string s] w fun e w' => NameAns s e ∧ w = w' := by
  have hb := get_bt s
  have HA := Lib.hid ha
  have HN := Lib.hid hn
  go_enter Tryz.func121, Tryz.ntmps121
  go_wp2_with fail
  clear ha hn
  go_loop [33] (fun i => ∃ k : Nat, k ≤ s.size ∧ i = .int .i64 k ∧ ∀ j, j < k → (97 ≤ bt s j ∧ bt s j ≤ 122) ∨ (48 ≤ bt s j ∧ bt s j ≤ 57) ∨ bt s j = 45) (fun i => s.size - (intOf i).toNat)
  case atStart => exact ⟨0, Nat.zero_le _, rfl, fun j h => by omega⟩
  case round =>
    obtain ⟨k, hk, rfl, hall⟩ := hrel
    have HALL := Lib.hid hall
    clear hall
    have hb0 := bt_nonneg s k
    have hb1 := bt_le s k
    by_cases hlt : k < s.size
    · rcases byte_ways _ hb0 hb1 with h | h | h | h | h | h | h
      all_goals go_wp2
      all_goals
        first
        | (exfalso; rename_i hx; simp at hx; omega)
        | (go_ret
           exact ⟨⟨fun h => by have := h.each _ hlt; omega, fun _ => rfl⟩, rfl⟩)
        | (go_round
           case rel =>
            refine ⟨_ + 1, hlt, by go_num, fun j hj => ?_⟩
            rcases Nat.lt_succ_iff_lt_or_eq.1 hj with e | e
            · exact HALL.out j e
            · rw [e]; omega
           case measure => simp [intOf]; omega)
    · obtain rfl : k = s.size := by omega
      clear hb0 hb1
      have hok : NameOk s := ⟨h0, h1, ⟨hf0, hf1⟩, by have := HA.out; simpa using this, by have := HN.out; simpa using this, HALL.out⟩
      go_wp2
      go_ret
      exact ⟨⟨fun _ => rfl, fun h => absurd hok h⟩, rfl⟩

theorem name_any (s : ByteArray) (w : World) : Calls Tryz.prog 153 #[.string s] w fun e w' => NameAns s e ∧ w = w' := by
  by_cases h0 : s.size = 0
  · exact (name_closed s w (Or.inl (bytes_empty h0))).mono fun e w' ⟨h, hw⟩ => ⟨⟨fun x => absurd x.pos (by omega), fun _ => h⟩, hw⟩
  by_cases h1 : 12 < s.size
  · exact (name_long s w h1).mono fun e w' ⟨h, hw⟩ => ⟨⟨fun x => absurd x.len (by omega), fun _ => h⟩, hw⟩
  by_cases ha : s.toList = [97, 110, 121]
  · exact (name_closed s w (Or.inr (Or.inl (bytes_eq (ha.trans (by decide +kernel)))))).mono fun e w' ⟨h, hw⟩ => ⟨⟨fun x => absurd ha x.any, fun _ => h⟩, hw⟩
  by_cases hn : s.toList = [110, 111, 110, 101]
  · exact (name_closed s w (Or.inr (Or.inr (bytes_eq (hn.trans (by decide +kernel)))))).mono fun e w' ⟨h, hw⟩ => ⟨⟨fun x => absurd hn x.none, fun _ => h⟩, hw⟩
  exact name_main s w (by omega) (by omega) (by simpa using ha) (by simpa using hn)

theorem refn_any (s : ByteArray) (w : World) : Calls Tryz.prog 121 #[.string s] w fun e w' => NameAns s e ∧ w = w' := by
  by_cases h0 : s.size = 0
  · exact (refn_closed s w (Or.inl (bytes_empty h0))).mono fun e w' ⟨h, hw⟩ => ⟨⟨fun x => absurd x.pos (by omega), fun _ => h⟩, hw⟩
  by_cases h1 : 12 < s.size
  · exact (refn_long s w h1).mono fun e w' ⟨h, hw⟩ => ⟨⟨fun x => absurd x.len (by omega), fun _ => h⟩, hw⟩
  by_cases hf : bt s 0 < 97 ∨ 122 < bt s 0
  · exact (refn_first s w (by omega) (by omega) hf).mono fun e w' ⟨h, hw⟩ => ⟨⟨fun x => absurd x.first (by omega), fun _ => h⟩, hw⟩
  by_cases ha : s.toList = [97, 110, 121]
  · exact (refn_closed s w (Or.inr (Or.inl (bytes_eq (ha.trans (by decide +kernel)))))).mono fun e w' ⟨h, hw⟩ => ⟨⟨fun x => absurd ha x.any, fun _ => h⟩, hw⟩
  by_cases hn : s.toList = [110, 111, 110, 101]
  · exact (refn_closed s w (Or.inr (Or.inr (bytes_eq (hn.trans (by decide +kernel)))))).mono fun e w' ⟨h, hw⟩ => ⟨⟨fun x => absurd hn x.none, fun _ => h⟩, hw⟩
  exact refn_main s w (by omega) (by omega) (by omega) (by omega) (by simpa using ha) (by simpa using hn)
end Go.Proofs.YthpeifkiaodokaaGreatDoor
