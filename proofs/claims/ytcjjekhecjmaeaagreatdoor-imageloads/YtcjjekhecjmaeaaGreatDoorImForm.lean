/- The contracts of formed and value. -/
import Derived.Test.YtcjjekhecjmaeaaGreatDoorErErrs
import Derived.Test.YtcjjekhecjmaeaaGreatDoorImDig
set_option maxHeartbeats 1000000
set_option maxRecDepth 100000
namespace Go.Proofs.YtcjjekhecjmaeaaGreatDoor
open Go.RowKit Num Go.Sort Go.PlainAid
def AllDig (s : ByteArray) : Prop := ∀ k, k < s.size -> 48 <= bt s k /\ bt s k <= 57
theorem not_empty {s : ByteArray} (h : 0 < s.size) : s.toList.isEmpty = false := by
 rw [ByteArray.toList_eq]
 cases e : s.data.toList with
 | nil =>
  have : s.data.toList.length = 0 := by rw [e]; rfl
  have h2 : s.data.toList.length = s.size := by simp
  omega
 | cons a l => rfl
theorem formed_empty (s : ByteArray) (w : World) (h0 : s.size = 0) :
  Calls Tryz.prog 170 #[.string s] w fun e w' => e = .returned (.bool false) /\ w = w' := by
 have he : s = ⟨#[]⟩ := by
  apply ByteArray.ext
  exact Array.eq_empty_of_size_eq_zero h0
 subst he
 clear h0
 go_enter Tryz.func170, Tryz.ntmps170
 go_wp2
 go_ret
 exact ⟨rfl, rfl⟩
theorem formed_head (s : ByteArray) (w : World) (h1 : 1 < s.size) (_hm : s.size <= 100000) (hh : bt s 0 = 48) :
  Calls Tryz.prog 170 #[.string s] w fun e w' => e = .returned (.bool false) /\ w = w' := by
 have hb := get_bt s
 have hne := not_empty (s := s) (by omega)
 go_enter Tryz.func170, Tryz.ntmps170
 go_wp2
 go_ret
 exact ⟨rfl, rfl⟩
theorem formed_rest (s : ByteArray) (w : World) (h1 : 0 < s.size) (hm : s.size <= 100000) (hh : bt s 0 = 48 -> s.size = 1) :
  Calls Tryz.prog 170 #[.string s] w fun e w' => (AllDig s -> e = .returned (.bool true)) /\ (¬ AllDig s -> e = .returned (.bool false)) /\ w = w' := by
 have hb := get_bt s
 have hne := not_empty h1
 obtain ⟨q, hq, hq2⟩ : ∃ q : Bool, (bt s 0 == 48) = q /\ (q = true -> ¬ 1 < s.size) := ⟨_, rfl, fun e => by have := hh (by simpa using e); omega⟩
 have key : (q = false) \/ (q = true /\ ¬ 1 < s.size) := by
  cases q
  ·exact Or.inl rfl
  ·exact Or.inr ⟨rfl, hq2 rfl⟩
 clear hq2 hh
 have fin : ∀ W : World, Calls Tryz.prog 170 #[.string s] W fun e w' => (AllDig s -> e = .returned (.bool true)) /\ (¬ AllDig s -> e = .returned (.bool false)) /\ W = w' := by
  intro W
  rcases key with rfl | ⟨rfl, hsz⟩
  all_goals
   go_enter Tryz.func170, Tryz.ntmps170
   go_wp2_with fail
   go_loop [18] (fun i => ∃ k : Nat, k <= s.size /\ i = .int .i64 k /\ ∀ j, j < k -> 48 <= bt s j /\ bt s j <= 57) (fun i => s.size - (intOf i).toNat)
   case atStart => exact ⟨0, Nat.zero_le _, rfl, fun j h => by omega⟩
   case round =>
    obtain ⟨k, hk, rfl, hall⟩ := hrel
    have HA : Hid (∀ j, j < k -> 48 <= bt s j /\ bt s j <= 57) := hall
    clear hall
    have hb0 := bt_nonneg s k
    have hb1 := bt_le s k
    by_cases hlt : k < s.size
    ·by_cases ha : bt s k < 48
     ·go_wp2
      go_ret
      exact ⟨fun h => by have := h k hlt; omega, fun _ => rfl, rfl⟩
     ·by_cases hz : 57 < bt s k
      ·go_wp2
       go_ret
       exact ⟨fun h => by have := h k hlt; omega, fun _ => rfl, rfl⟩
      ·go_wp2
       go_round
       case rel =>
        refine ⟨k + 1, by omega, by go_num, fun j hj => ?_⟩
        by_cases e : j = k
        ·rw [e]; omega
        ·exact HA.out j (by omega)
       case measure => simp [intOf]; omega
    ·obtain rfl : k = s.size := by omega
     go_wp2
     go_ret
     exact ⟨fun _ => rfl, fun h => absurd HA.out h, rfl⟩
 exact fin w
theorem formed_any (s : ByteArray) (w : World) (hm : s.size <= 100000) :
  Calls Tryz.prog 170 #[.string s] w fun e w' => (OkText s -> e = .returned (.bool true)) /\ (¬ OkText s -> e = .returned (.bool false)) /\ w = w' := by
 by_cases h0 : s.size = 0
 ·exact (formed_empty s w h0).mono fun e w' ⟨he, hw⟩ => ⟨fun h => by have := h.pos; omega, fun _ => he, hw⟩
 ·by_cases hh : bt s 0 = 48 /\ 1 < s.size
  ·exact (formed_head s w hh.2 hm hh.1).mono fun e w' ⟨he, hw⟩ => ⟨fun h => by have := h.head hh.1; omega, fun _ => he, hw⟩
  ·refine (formed_rest s w (by omega) hm (fun e => ?_)).mono fun e w' ⟨h1, h2, hw⟩ => ⟨fun h => h1 h.digits, fun h => h2 (fun hd => h ⟨by omega, fun e => ?_, hd⟩), hw⟩
   ·by_cases h1 : s.size = 1
    ·exact h1
    ·exact absurd ⟨e, by omega⟩ hh
   ·by_cases h1 : s.size = 1
    ·exact h1
    ·exact absurd ⟨e, by omega⟩ hh
theorem value_any (s : ByteArray) (w : World) (hm : s.size <= 9) (hd : ∀ k, k < s.size -> 48 <= bt s k /\ bt s k <= 57) :
  Calls Tryz.prog 171 #[.string s] w fun e w' => e = .returned (.int .u64 ((pre s s.size : Nat) : Int)) /\ w = w' := by
 have hb := get_bt s
 have HD : Hid (∀ k, k < s.size -> 48 <= bt s k /\ bt s k <= 57) := hd
 clear hd
 go_enter Tryz.func171, Tryz.ntmps171
 go_wp2_with fail
 go_loop [3, 7] (fun o i => ∃ k : Nat, k <= s.size /\ i = .int .i64 k /\ o = .int .u64 ((pre s k : Nat) : Int)) (fun _ i => s.size - (intOf i).toNat)
 case atStart => exact ⟨0, Nat.zero_le _, rfl, rfl⟩
 case round =>
  obtain ⟨k, hk, rfl, rfl⟩ := hrel
  have hp := pre_lt s HD.out k hk
  have hp9 : 10 ^ k <= 10 ^ 9 := Nat.pow_le_pow_right (by omega) (by omega)
  have hp2 : pre s k < 1000000000 := by omega
  clear hp hp9
  by_cases hlt : k < s.size
  ·have hdk := HD.out k hlt
   obtain ⟨d0, d1⟩ := hdk
   go_wp2
   go_round
   case rel =>
    refine ⟨k + 1, by omega, by go_num, ?_⟩
    rw [pre_succ]
    go_num
   case measure => simp [intOf]; omega
  ·obtain rfl : k = s.size := by omega
   go_wp2
   go_ret
   exact ⟨rfl, rfl⟩
end Go.Proofs.YtcjjekhecjmaeaaGreatDoor
