/- few and right, as the laws have them. -/
import Derived.Test.YtcmmoinkhodjfaaDoorClWithin
namespace Go.Proofs.YtcmmoinkhodjfaaDoor
open Go.RowKit

def IsB (e : Ending) : Prop := ∃ B, e = .returned (.bool B)
def RightAns (c : List Int) (e : Ending) : Prop := ∃ B, e = .returned (.bool B) ∧ (B = true → (∀ x ∈ c, litB 24 x = true) ∧ c.length ≤ 60)

set_option maxRecDepth 100000 in
set_option maxHeartbeats 2000000 in
theorem few_any (v most : Int) (l : List (List Int)) (a : Option Addr) (cap : Nat) (w : World) (hI : ClsIn w a l) (hm : l.length ≤ 9223372036854775807) :
    Calls Tryd.prog 14 #[.int .i64 v, .slice a l.length cap, .int .i64 most] w fun e w' => IsB e ∧ w = w' := by
  have HI := Lib.hid hI
  clear hI
  go_enter Tryd.func14, Tryd.ntmps14
  go_wp2_with fail
  go_loop [7, 8] (fun nV kV => ∃ (k : Nat) (n : Int), k ≤ l.length ∧ kV = .int .i64 (k : Int) ∧ nV = .int .i64 n) (fun _ kV => l.length - (intOf kV).toNat)
  case atStart => exact ⟨0, _, Nat.zero_le _, rfl, rfl⟩
  case round =>
    obtain ⟨k, n, hk, rfl, rfl⟩ := hrel
    by_cases hlt : k < l.length
    · obtain ⟨ad, a', cap', rfl, hl, hc, g1, g2, g3⟩ := HI.out k hlt
      clear g3
      generalize (l.getD k []).length = len at *
      go_wp2
      go_round
      case rel => exact ⟨k + 1, _, hlt, by go_num, rfl⟩
      case measure => simp [intOf]; omega
    · obtain rfl : k = l.length := by omega
      go_wp2
      go_ret
      exact ⟨⟨_, rfl⟩, rfl⟩

set_option maxRecDepth 100000 in
set_option maxHeartbeats 2000000 in
theorem right_any (c : List Int) (a : Option Addr) (cap : Nat) (w : World) (hI : IntsIn w a c) (hm : c.length ≤ 9223372036854775807) :
    Calls Tryd.prog 7 #[.slice a c.length cap] w fun e w' => RightAns c e ∧ w = w' := by
  have HI := Lib.hid hI
  clear hI
  go_enter Tryd.func7, Tryd.ntmps7
  go_wp2_with fail
  go_loop [3] (fun kV => ∃ k : Nat, k ≤ c.length ∧ kV = .int .i64 (k : Int) ∧ ∀ j, j < k → litB 24 (c.getD j 0) = true) (fun kV => c.length - (intOf kV).toNat)
  case atStart => exact ⟨0, Nat.zero_le _, rfl, fun j h => by omega⟩
  case round =>
    obtain ⟨k, hk, rfl, h1⟩ := hrel
    have H1 := Lib.hid h1
    clear h1
    by_cases hlt : k < c.length
    · obtain ⟨ad, rfl, hl, hc⟩ := HI.out k hlt
      generalize hx : c.getD k 0 = x at *
      have HX := Lib.hid hx
      clear hx
      by_cases h0 : x = 0
      · subst h0
        go_wp2
        go_ret
        exact ⟨⟨false, rfl, fun h => by cases h⟩, rfl⟩
      · have h0' : (x == 0) = false := by simpa using h0
        by_cases h2 : x < -24
        · go_wp2
          go_ret
          exact ⟨⟨false, rfl, fun h => by cases h⟩, rfl⟩
        · by_cases h3 : 24 < x
          · go_wp2
            go_ret
            exact ⟨⟨false, rfl, fun h => by cases h⟩, rfl⟩
          · go_wp2
            go_round
            case rel => exact ⟨k + 1, hlt, by go_num, fun j hj => (by
              rcases Nat.lt_succ_iff_lt_or_eq.1 hj with e | e
              · exact H1.out j e
              · rw [e, HX.out]; simp [litB, h0]; omega)⟩
            case measure => simp [intOf]; omega
    · obtain rfl : k = c.length := by omega
      go_wp2
      go_ret
      refine ⟨⟨_, rfl, fun hB => ⟨fun x hx => ?_, by have h := of_decide_eq_true hB; omega⟩⟩, rfl⟩
      obtain ⟨j, hj, rfl⟩ := List.getElem_of_mem hx
      have := H1.out j hj
      rw [List.getD_eq_getElem?_getD, List.getElem?_eq_getElem hj] at this
      simpa using this
end Go.Proofs.YtcmmoinkhodjfaaDoor
