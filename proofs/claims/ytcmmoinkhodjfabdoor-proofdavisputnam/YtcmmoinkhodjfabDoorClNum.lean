/- number and Index over what is told; Clone of clauses. -/
import Derived.Test.YtcmmoinkhodjfabDoorClStep
import Derived.Test.YtcmmoinkhodjfabDoorClBlk
import Derived.Laws.Bits64b
namespace Go.Proofs.YtcmmoinkhodjfabDoor
open Go.RowKit Go.Deep

/-- What is true of the first k variables, as a number. -/
def numF (told : List Int) : Nat → Nat
  | 0 => 0
  | k + 1 => if 0 < tv told k then numF told k ||| 2 ^ k else numF told k
theorem numF_lt (told : List Int) : ∀ k, numF told k < 2 ^ k
  | 0 => by simp [numF]
  | k + 1 => by
    have h := numF_lt told k
    have h2 : 2 ^ k < 2 ^ (k + 1) := Nat.pow_lt_pow_right (by omega) (by omega)
    unfold numF
    split
    · exact Nat.or_lt_two_pow (by omega) h2
    · omega
theorem numF_bit (told : List Int) : ∀ k i, (numF told k).testBit i = (decide (i < k) && decide (0 < tv told i))
  | 0, i => by simp [numF]
  | k + 1, i => by
    have h := numF_bit told k i
    unfold numF
    split
    · rename_i hp
      rw [Nat.testBit_or, h, Nat.testBit_two_pow]
      by_cases e : k = i
      · subst e; simp [hp]
      · by_cases h1 : i < k
        · simp [h1, e, show i < k + 1 by omega]
        · simp [h1, e, show ¬ i < k + 1 by omega]
    · rename_i hp
      rw [h]
      by_cases e : k = i
      · subst e; simp [hp]
      · by_cases h1 : i < k
        · simp [h1, show i < k + 1 by omega]
        · simp [h1, show ¬ i < k + 1 by omega]
theorem or_pow (o k : Nat) (ho : o < 2 ^ k) (hk : k < 24) : bits BinOp.or IntKind.u64 (o : Int) ((2 : Int) ^ k) = ((o ||| 2 ^ k : Nat) : Int) := by
  have h24 : 2 ^ k ≤ 2 ^ 24 := Nat.pow_le_pow_right (by omega) (by omega)
  have h63 : (2 : Nat) ^ 24 < 18446744073709551616 := by decide
  have e : ((2 : Int) ^ k) = ((2 ^ k : Nat) : Int) := by simp
  rw [e, bits_or_u64_nat o (2 ^ k) (by omega) (by omega)]
theorem shl_pow {k : Nat} (hk : k < 24) : IntKind.u64.wrap (2 ^ min k 64) = (2 : Int) ^ k := by
  have h24 : 2 ^ k ≤ 2 ^ 24 := Nat.pow_le_pow_right (by omega) (by omega)
  have h63 : (2 : Nat) ^ 24 < 2 ^ 63 := by decide
  have e : ((2 : Int) ^ k) = ((2 ^ k : Nat) : Int) := by simp
  rw [show min k 64 = k by omega, e, IntKind.wrap_u64]
  exact Int.emod_eq_of_lt (Int.natCast_nonneg _) (by omega)

set_option maxRecDepth 100000 in
set_option maxHeartbeats 2000000 in
theorem number_any (p : Addr) (told : List Int) (w : World) (hv : ValsAt w p told) :
    Calls Tryd.prog 36 #[.pointer (some p)] w fun e w' => e = .returned (.int .u64 ((numF told 24 : Nat) : Int)) ∧ Below w.heap.size w w' := by
  have HV := Lib.hid hv
  clear hv
  go_enter Tryd.func36, Tryd.ntmps36
  go_wp2_with fail
  go_loopw [3, 7] (fun nV kV wr => ∃ k : Nat, k ≤ 24 ∧ kV = .int .i64 (k : Int) ∧ nV = .int .u64 ((numF told k : Nat) : Int) ∧ Below w.heap.size w wr) (fun _ kV _ => 24 - (intOf kV).toNat)
  case atStart => exact ⟨0, by omega, rfl, rfl, Below.refl _ _⟩
  case round =>
    obtain ⟨k, hk, rfl, rfl, hbr⟩ := hrel
    have HBR := Lib.hid hbr
    clear hbr
    by_cases hlt : k < 24
    · have hc := (HV.out.below HBR.out).cell k hlt
      have hi0 : (0 : Int) ≤ (k : Int) := by omega
      have hi1 : (k : Int) < 24 := by omega
      have hor := or_pow (numF told k) k (numF_lt told k) hlt
      have hsh := shl_pow hlt
      have hw2 : IntKind.u64.wrap ((2 : Int) ^ k) = (2 : Int) ^ k := by rw [show min k 64 = k by omega] at hsh; exact hsh
      have HOR := Lib.hid hor
      have HSH := Lib.hid hsh
      have HW2 := Lib.hid hw2
      have HN : Hid (numF told (k + 1) = if 0 < tv told k then numF told k ||| 2 ^ k else numF told k) := rfl
      clear hor hsh hw2
      generalize tv told k = s at *
      generalize numF told k = o at *
      go_wp2_with fail
      go_quiet (fail)
      have hbn : Below w.heap.size w (wr.drewN nq) := HBR.out.trans ⟨rfl, rfl, rfl, Nat.le_refl _, fun _ _ => rfl⟩
      have HBN := Lib.hid hbn
      clear hbn
      by_cases hp : 0 < s
      · have HN2 := Lib.hid (HN.out.trans (if_pos hp))
        go_wp2
        go_roundw
        case rel => exact ⟨k + 1, hlt, by go_num, congrArg (Value.int .u64) (by rw [HN2.out]; first | exact HOR.out | (rw [HW2.out]; exact HOR.out) | (rw [HSH.out]; exact HOR.out)), HBN.out⟩
        case measure => simp [intOf]; omega
      · have HN2 := Lib.hid (HN.out.trans (if_neg hp))
        go_wp2
        go_roundw
        case rel => exact ⟨k + 1, hlt, by go_num, by rw [HN2.out], HBN.out⟩
        case measure => simp [intOf]; omega
    · obtain rfl : k = 24 := by omega
      go_wp2
      go_ret
      exact ⟨rfl, HBR.out⟩

set_option maxRecDepth 100000 in
set_option maxHeartbeats 2000000 in
theorem ix_i8 (p : Addr) (told : List Int) (v : Nat) (hv24 : v ≤ 24) (cap : Nat) (w : World) (hv : ValsAt w p told) :
    Calls Tryd.prog 35 #[.slice (some p) v cap, .int .i8 0] w fun e w' => e = .returned (.int .i64 (leastF v told)) ∧ w = w' := by
  have HV := Lib.hid hv
  clear hv
  go_enter Tryd.func35, Tryd.ntmps35
  go_wp2_with fail
  go_loop [8] (fun kV => ∃ k : Nat, k ≤ v ∧ kV = .int .i64 (k : Int) ∧ ∀ i, i < k → tv told i ≠ 0) (fun kV => v - (intOf kV).toNat)
  case atStart => exact ⟨0, by omega, rfl, fun i h => by omega⟩
  case round =>
    obtain ⟨k, hk, rfl, h1⟩ := hrel
    have H1 := Lib.hid h1
    clear h1
    by_cases hlt : k < v
    · have hc := HV.out.cell k (by omega)
      have HL := Lib.hid (least_is (v := v) (told := told))
      generalize hs : tv told k = s at *
      have HS := Lib.hid hs
      clear hs
      by_cases h0 : s = 0
      · have HR : Hid (leastF v told = (k : Int)) := by
          rcases HL.out with ⟨_, h⟩ | ⟨j, e, hj, h2, h3⟩
          · exact absurd (HS.out.trans h0) (h k hlt)
          · have : j = k := by
              rcases Nat.lt_trichotomy j k with h | h | h
              · exact absurd h2 (H1.out j h)
              · exact h
              · exact absurd (HS.out.trans h0) (h3 k h)
            rw [← this]; exact e
        subst h0
        go_wp2
        go_ret
        exact ⟨by rw [HR.out]; rfl, rfl⟩
      · have h0' : (0 == s) = false := by simp; omega
        go_wp2
        go_round
        case rel => exact ⟨k + 1, hlt, by go_num, fun i hi => (by
          rcases Nat.lt_succ_iff_lt_or_eq.1 hi with e | e
          · exact H1.out i e
          · rw [e, HS.out]; exact h0)⟩
        case measure => simp [intOf]; omega
    · obtain rfl : k = v := by omega
      have HR : Hid (leastF k told = -1) := by
        rcases least_is (v := k) (told := told) with ⟨e, _⟩ | ⟨j, e, hj, h2, h3⟩
        · exact e
        · exact absurd h2 (H1.out j hj)
      go_wp2
      go_ret
      exact ⟨by rw [HR.out]; rfl, rfl⟩
end Go.Proofs.YtcmmoinkhodjfabDoor
