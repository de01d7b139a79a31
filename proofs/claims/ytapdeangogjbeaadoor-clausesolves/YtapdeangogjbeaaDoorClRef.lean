/- The reference's Check, Holds and AllHold; few and right. -/
import Derived.Test.YtapdeangogjbeaaDoorClHolds
namespace Go.Proofs.YtapdeangogjbeaaDoor
open Go.RowKit

set_option maxRecDepth 100000 in
set_option maxHeartbeats 1000000 in
theorem within_any (n lo hi : Int) (w : World) : Calls Tryd.prog 26 #[.int .i64 n, .int .i64 lo, .int .i64 hi] w fun e w' => e = .returned (.bool (decide (lo ≤ n ∧ n ≤ hi))) ∧ w = w' := by
  by_cases h1 : lo ≤ n
  · by_cases h2 : n ≤ hi
    · rw [show decide (lo ≤ n ∧ n ≤ hi) = true by simp [h1, h2]]
      go_enter Tryd.func26, Tryd.ntmps26
      go_wp2
      go_ret
      exact ⟨rfl, rfl⟩
    · rw [show decide (lo ≤ n ∧ n ≤ hi) = false by simp [h2]]
      go_enter Tryd.func26, Tryd.ntmps26
      go_wp2
      go_ret
      exact ⟨rfl, rfl⟩
  · rw [show decide (lo ≤ n ∧ n ≤ hi) = false by simp [h1]]
    go_enter Tryd.func26, Tryd.ntmps26
    go_wp2
    go_ret
    exact ⟨rfl, rfl⟩

theorem litH_pos (vals t : Nat) : litH vals ((t : Int) + 1) = vals.testBit t := by
  unfold litH; rw [if_pos (by omega)]; congr 1
theorem litH_neg (vals t : Nat) : litH vals (-((t : Int) + 1)) = !vals.testBit t := by
  unfold litH; rw [if_neg (by omega), show (- -((t : Int) + 1)).toNat - 1 = t by omega]

theorem any_hit {α : Type} {p : α → Bool} {xs : List α} {k : Nat} {d : α} (hk : k < xs.length) (h1 : p (xs.getD k d) = true) : xs.any p = true := List.any_eq_true.2 ⟨_, getD_mem hk, h1⟩
theorem any_none {α : Type} {p : α → Bool} {xs : List α} {d : α} (h0 : ∀ j, j < xs.length → p (xs.getD j d) = false) : xs.any p = false := by
  rw [List.any_eq_false]
  intro x hx
  obtain ⟨j, hj, rfl⟩ := List.getElem_of_mem hx
  have := h0 j hj
  rw [List.getD_eq_getElem?_getD, List.getElem?_eq_getElem hj] at this
  simpa using this

set_option maxRecDepth 100000 in
set_option maxHeartbeats 2000000 in
theorem rholds_any (c : List Int) (a : Option Addr) (cap : Nat) (vals : Nat) (hv : vals < 18446744073709551616) (w : World) (hI : IntsIn w a c) (hm : c.length ≤ 9223372036854775807) (hr : ∀ x ∈ c, litB 24 x = true) :
    Calls Tryd.prog 12 #[.slice a c.length cap, .int .u64 (vals : Int)] w fun e w' => e = .returned (.bool (c.any (litH vals))) ∧ w = w' := by
  have HI := Lib.hid hI
  have HR := Lib.hid hr
  clear hI hr
  go_enter Tryd.func12, Tryd.ntmps12
  go_wp2_with fail
  go_loop [9] (fun kV => ∃ k : Nat, k ≤ c.length ∧ kV = .int .i64 (k : Int) ∧ (∀ j, j < k → litH vals (c.getD j 0) = false)) (fun kV => c.length - (intOf kV).toNat)
  case atStart => exact ⟨0, Nat.zero_le _, rfl, fun j h => by omega⟩
  case round =>
    obtain ⟨k, hk, rfl, h1⟩ := hrel
    have H1 := Lib.hid h1
    clear h1
    by_cases hlt : k < c.length
    · obtain ⟨ad, rfl, hl, hc⟩ := HI.out k hlt
      have hx0 := HR.out _ (getD_mem (d := 0) hlt)
      generalize hx : c.getD k 0 = x at *
      have hx1 : x ≠ 0 ∧ -24 ≤ x ∧ x ≤ 24 := by simpa [litB] using hx0
      have HX := Lib.hid hx
      clear hx hx0
      by_cases hp : 0 < x
      · obtain ⟨t, rfl⟩ : ∃ t : Nat, x = (t : Int) + 1 := ⟨x.toNat - 1, by omega⟩
        have ht : t < 24 := by omega
        have hs := shr_bit1 vals t hv
        cases hb : vals.testBit t with
        | true =>
          rw [hb] at hs
          have HRES : Hid (c.any (litH vals) = true) := any_hit (d := 0) hlt (by rw [HX.out, litH_pos]; exact hb)
          clear hb hx1
          go_wp2
          go_ret
          exact ⟨by rw [HRES.out]; rfl, rfl⟩
        | false =>
          rw [hb] at hs
          have HRES : Hid (litH vals ((t : Int) + 1) = false) := by show _ = false; rw [litH_pos]; exact hb
          clear hb hx1
          go_wp2
          go_round
          case rel => exact ⟨k + 1, hlt, by go_num, fun j hj => (by
            rcases Nat.lt_succ_iff_lt_or_eq.1 hj with e | e
            · exact H1.out j e
            · rw [e, HX.out]; exact HRES.out)⟩
          case measure => simp [intOf]; omega
      · obtain ⟨t, rfl⟩ : ∃ t : Nat, x = -((t : Int) + 1) := ⟨(-x).toNat - 1, by omega⟩
        have ht : t < 24 := by omega
        have hs := shr_bit0 vals t hv
        cases hb : vals.testBit t with
        | false =>
          rw [hb] at hs
          have HRES : Hid (c.any (litH vals) = true) := any_hit (d := 0) hlt (by rw [HX.out, litH_neg, hb]; rfl)
          clear hb hx1
          go_wp2
          go_ret
          exact ⟨by rw [HRES.out]; rfl, rfl⟩
        | true =>
          rw [hb] at hs
          have HRES : Hid (litH vals (-((t : Int) + 1)) = false) := by show _ = false; rw [litH_neg, hb]; rfl
          clear hb hx1
          go_wp2
          go_round
          case rel => exact ⟨k + 1, hlt, by go_num, fun j hj => (by
            rcases Nat.lt_succ_iff_lt_or_eq.1 hj with e | e
            · exact H1.out j e
            · rw [e, HX.out]; exact HRES.out)⟩
          case measure => simp [intOf]; omega
    · obtain rfl : k = c.length := by omega
      have HRES : Hid (c.any (litH vals) = false) := any_none H1.out
      go_wp2
      go_ret
      exact ⟨by rw [HRES.out]; rfl, rfl⟩

theorem holdK_of {vals : Nat} {c : List Int} (hr : ∀ x ∈ c, litB 24 x = true) : holdK vals c = c.any (litH vals) := by
  unfold holdK
  rw [Bool.eq_iff_iff, List.any_eq_true, List.any_eq_true]
  constructor
  · rintro ⟨x, hx, h⟩; exact ⟨x, hx, by unfold litK at h; rw [hr x hx] at h; simpa using h⟩
  · rintro ⟨x, hx, h⟩; exact ⟨x, hx, by unfold litK; rw [hr x hx, h]; rfl⟩

set_option maxRecDepth 100000 in
set_option maxHeartbeats 2000000 in
theorem rallHold_any (l : List (List Int)) (a : Option Addr) (cap : Nat) (vals : Nat) (hv : vals < 18446744073709551616) (w : World) (hI : ClsIn w a l) (hm : l.length ≤ 9223372036854775807) (hr : ∀ c ∈ l, ∀ x ∈ c, litB 24 x = true) :
    Calls Tryd.prog 14 #[.slice a l.length cap, .int .u64 (vals : Int)] w fun e w' => e = .returned (.bool (allK vals l)) ∧ w = w' := by
  have HI := Lib.hid hI
  have HR := Lib.hid hr
  clear hI hr
  rw [allK_eq]
  go_enter Tryd.func14, Tryd.ntmps14
  go_wp2_with fail
  go_loop [9] (fun kV => ∃ k : Nat, k ≤ l.length ∧ kV = .int .i64 (k : Int) ∧ (∀ j, j < k → (!holdK vals (l.getD j [])) = false)) (fun kV => l.length - (intOf kV).toNat)
  case atStart => exact ⟨0, Nat.zero_le _, rfl, fun j h => by omega⟩
  case round =>
    obtain ⟨k, hk, rfl, h1⟩ := hrel
    have H1 := Lib.hid h1
    clear h1
    by_cases hlt : k < l.length
    · obtain ⟨ad, a', cap', rfl, hl, hc, g1, g2, g3⟩ := HI.out k hlt
      have hr0 := HR.out _ (getD_mem (d := []) hlt)
      have HC := Lib.hid (rholds_any (l.getD k []) a' cap' vals hv w g3 (by omega) hr0)
      rw [← holdK_of hr0] at HC
      generalize hx : l.getD k [] = c at *
      have HX := Lib.hid hx
      clear hx hr0 g3
      cases hb : holdK vals c with
      | true =>
        rw [hb] at HC
        have HB := Lib.hid hb
        clear hb
        go_wp2_with fail
        refine HC.out.mono ?_
        rintro e w1 ⟨rfl, rfl⟩
        clear HC
        go_wp2
        go_round
        case rel => exact ⟨k + 1, hlt, by go_num, fun j hj => (by
          rcases Nat.lt_succ_iff_lt_or_eq.1 hj with e | e
          · exact H1.out j e
          · rw [e, HX.out, HB.out]; rfl)⟩
        case measure => simp [intOf]; omega
      | false =>
        rw [hb] at HC
        have HRES : Hid (l.any (fun c => !holdK vals c) = true) := any_hit (d := []) hlt (by rw [HX.out, hb]; rfl)
        clear hb
        go_wp2_with fail
        refine HC.out.mono ?_
        rintro e w1 ⟨rfl, rfl⟩
        clear HC
        go_wp2
        go_ret
        exact ⟨by rw [HRES.out]; rfl, rfl⟩
    · obtain rfl : k = l.length := by omega
      have HRES : Hid (l.any (fun c => !holdK vals c) = false) := any_none H1.out
      go_wp2
      go_ret
      exact ⟨by rw [HRES.out]; rfl, rfl⟩
end Go.Proofs.YtapdeangogjbeaaDoor
