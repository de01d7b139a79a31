/- The reference's NatParse. -/
import Derived.Test.YtfangnjdfmaaoaaDoorBigSet
namespace Go.Proofs.YtfangnjdfmaaoaaDoor
open Go.RowKit Num Go.Sort Go.PlainAid

set_option maxRecDepth 100000 in
set_option maxHeartbeats 1000000 in
theorem ref_empty (s : ByteArray) (w : World) (h0 : s.size = 0) :
    Calls Tryd.prog 7 #[.string s] w fun e w' => e = .returned (.tuple #[.pointer none, .int .i64 3]) ∧ w = w' := by
  have he : s = ⟨#[]⟩ := by
    apply ByteArray.ext
    exact Array.eq_empty_of_size_eq_zero h0
  subst he
  clear h0
  go_enter Tryd.func7, Tryd.ntmps7
  go_wp2
  go_ret2
  exact ⟨rfl, rfl⟩

set_option maxRecDepth 100000 in
set_option maxHeartbeats 2000000 in
theorem ref_rest (s : ByteArray) (w : World) (h1 : 0 < s.size) (hm : s.size ≤ 400) :
    Calls Tryd.prog 7 #[.string s] w fun e w' => (¬ OkText s → e = .returned (.tuple #[.pointer none, .int .i64 3])) ∧ (OkText s → 100 < s.size → e = .returned (.tuple #[.pointer none, .int .i64 4])) ∧ (OkText s → s.size ≤ 100 → ∃ b, e = .returned (.tuple #[.pointer (some ⟨b, 0, none⟩), .int .i64 0]) ∧ IntIs w' b (pre s s.size)) ∧ Below w.heap.size w w' := by
  have hgb := get_bt s
  have hne := not_empty h1
  go_enter Tryd.func7, Tryd.ntmps7
  go_wp2_with fail
  go_loop [11] (fun i => ∃ k : Nat, k ≤ s.size ∧ i = .int .i64 k ∧ ∀ j, j < k → 48 ≤ bt s j ∧ bt s j ≤ 57) (fun i => s.size - (intOf i).toNat)
  case atStart => exact ⟨0, Nat.zero_le _, rfl, fun j h => by omega⟩
  case round =>
    obtain ⟨k, hk, rfl, hall⟩ := hrel
    have HA : Hid (∀ j, j < k → 48 ≤ bt s j ∧ bt s j ≤ 57) := hall
    clear hall
    have hb0 := bt_nonneg s k
    have hb1 := bt_le s k
    by_cases hlt : k < s.size
    · by_cases ha : bt s k < 48
      · go_wp2
        go_ret2
        exact ⟨fun _ => rfl, fun h => by have := h.digits k hlt; omega, fun h => by have := h.digits k hlt; omega, Below.refl _ _⟩
      · by_cases hz : 57 < bt s k
        · go_wp2
          go_ret2
          exact ⟨fun _ => rfl, fun h => by have := h.digits k hlt; omega, fun h => by have := h.digits k hlt; omega, Below.refl _ _⟩
        · go_wp2
          go_round
          case rel =>
            refine ⟨k + 1, by omega, by go_num, fun j hj => ?_⟩
            by_cases e : j = k
            · rw [e]; omega
            · exact HA.out j (by omega)
          case measure => simp [intOf]; omega
    · obtain rfl : k = s.size := by omega
      clear hb0 hb1
      by_cases hz : bt s 0 = 48
      · by_cases h2 : 1 < s.size
        · go_wp2
          go_ret2
          exact ⟨fun _ => rfl, fun h => by have := h.head hz; omega, fun h => by have := h.head hz; omega, Below.refl _ _⟩
        · have hok : OkText s := ⟨h1, fun _ => by omega, HA.out⟩
          have HOK : Hid (OkText s) := hok
          have HZ : Hid (bt s 0 = 48) := hz
          have hzb : (bt s 0 == 48) = true := by simp [hz]
          have H := setString_any w.heap.size s (w.alloc (.cells #[.bool false, .slice none 0 0] 47)) (by simp) (by simp) (by simp) (by simp) (by simp) hok (by omega)
          clear hok hz
          go_wp2_with fail
          refine H.mono ?_
          rintro e w1 ⟨rfl, hI, hb1⟩
          have hbw : Below w.heap.size w w1 := ((Below.refl _ _).alloc (Nat.le_refl _) _).trans hb1
          clear H hb1
          go_wp2
          go_ret2
          exact ⟨fun h => absurd HOK.out h, fun _ h => by omega, fun _ _ => ⟨_, rfl, hI⟩, hbw⟩
      · have hok : OkText s := ⟨h1, fun h => absurd h hz, HA.out⟩
        have HOK : Hid (OkText s) := hok
        have hzb : (bt s 0 == 48) = false := by simp [hz]
        by_cases h100 : 100 < s.size
        · clear hok hz
          go_wp2
          go_ret2
          exact ⟨fun h => absurd HOK.out h, by intros; rfl, by first | trivial | (intros; omega), Below.refl _ _⟩
        · have H := setString_any w.heap.size s (w.alloc (.cells #[.bool false, .slice none 0 0] 47)) (by simp) (by simp) (by simp) (by simp) (by simp) hok (by omega)
          clear hok hz
          go_wp2_with fail
          refine H.mono ?_
          rintro e w1 ⟨rfl, hI, hb1⟩
          have hbw : Below w.heap.size w w1 := ((Below.refl _ _).alloc (Nat.le_refl _) _).trans hb1
          clear H hb1
          go_wp2
          go_ret2
          exact ⟨fun h => absurd HOK.out h, fun _ h => by omega, fun _ _ => ⟨_, rfl, hI⟩, hbw⟩

theorem ref_any (s : ByteArray) (w : World) (hm : s.size ≤ 400) :
    Calls Tryd.prog 7 #[.string s] w fun e w' => (¬ OkText s → e = .returned (.tuple #[.pointer none, .int .i64 3])) ∧ (OkText s → 100 < s.size → e = .returned (.tuple #[.pointer none, .int .i64 4])) ∧ (OkText s → s.size ≤ 100 → ∃ b, e = .returned (.tuple #[.pointer (some ⟨b, 0, none⟩), .int .i64 0]) ∧ IntIs w' b (pre s s.size)) ∧ Below w.heap.size w w' := by
  by_cases h0 : s.size = 0
  · exact (ref_empty s w h0).mono fun e w' ⟨he, hw⟩ => ⟨fun _ => he, fun h => by have := h.pos; omega, fun h => by have := h.pos; omega, hw ▸ Below.refl _ _⟩
  · exact ref_rest s w (by omega) hm
end Go.Proofs.YtfangnjdfmaaoaaDoor
