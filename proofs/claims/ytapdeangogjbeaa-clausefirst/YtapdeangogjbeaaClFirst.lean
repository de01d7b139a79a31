/- The walk of ClauseFirst. -/
import Derived.Test.YtapdeangogjbeaaClImplies
import Derived.Test.YtapdeangogjbeaaClFirstM
namespace Go.Proofs.Ytapdeangogjbeaa
open Go.RowKit Go.Deep

theorem shr_val (x t : Nat) (hx : x < 18446744073709551616) : bits BinOp.and IntKind.u64 ((x : Int) / 2 ^ t) 1 = if x.testBit t then 1 else 0 := by
  have e : (x : Int) / 2 ^ t = ((x / 2 ^ t : Nat) : Int) := by simp
  have hd : x / 2 ^ t ≤ x := Nat.div_le_self _ _
  rw [e, Nat.testBit_eq_decide_div_mod_eq]
  generalize x / 2 ^ t = m at *
  rw [and_one_u64 _ (by omega) (by omega)]
  by_cases h : m % 2 = 1
  · simp [h]; omega
  · simp [h]; omega

def AheadAns (v x y : Nat) (e : Ending) : Prop := ∃ B, e = .returned (.bool B) ∧ (B = true → ∃ i, i < v ∧ (∀ j, j < i → x.testBit j = y.testBit j) ∧ x.testBit i = true ∧ y.testBit i = false)

set_option maxRecDepth 100000 in
set_option maxHeartbeats 2000000 in
theorem ahead_any (v x y : Nat) (hv : v ≤ 24) (hx : x < 18446744073709551616) (hy : y < 18446744073709551616) (w : World) :
    Calls Try.prog 9 #[.int .i64 (v : Int), .int .u64 (x : Int), .int .u64 (y : Int)] w fun e w' => AheadAns v x y e ∧ Below w.heap.size w w' := by
  go_enter Try.func9, Try.ntmps9
  go_wp2_with fail
  go_loopw [7] (fun kV wr => ∃ k : Nat, k ≤ v ∧ kV = .int .i64 (k : Int) ∧ (∀ j, j < k → x.testBit j = y.testBit j) ∧ Below w.heap.size w wr) (fun kV _ => v - (intOf kV).toNat)
  case atStart => exact ⟨0, Nat.zero_le _, rfl, fun j h => by omega, Below.refl _ _⟩
  case round =>
    obtain ⟨k, hk, rfl, h1, hbr⟩ := hrel
    have H1 := Lib.hid h1
    have HBR := Lib.hid hbr
    clear h1 hbr
    by_cases hlt : k < v
    · have hk24 : k < 24 := by omega
      have hsx := shr_val x k hx
      have hsy := shr_val y k hy
      have hi0 : (0 : Int) ≤ (k : Int) := by omega
      have HBN : Hid (∀ q, Below w.heap.size w (wr.drewN q)) := fun q => HBR.out.trans ⟨rfl, rfl, rfl, Nat.le_refl _, fun _ _ => rfl⟩
      cases ha : x.testBit k <;> cases hb : y.testBit k
      · rw [ha, if_neg (by simp)] at hsx
        rw [hb, if_neg (by simp)] at hsy
        have HE : Hid (x.testBit k = y.testBit k) := by rw [ha, hb]; rfl
        clear ha hb
        go_wp2_with fail
        go_quiet (fail)
        go_wp2
        go_roundw
        case rel => exact ⟨k + 1, hlt, by go_num, fun j hj => (by
          rcases Nat.lt_succ_iff_lt_or_eq.1 hj with e | e
          · exact H1.out j e
          · rw [e]; exact HE.out), HBN.out _⟩
        case measure => simp [intOf]; omega
      · rw [ha, if_neg (by simp)] at hsx
        rw [hb, if_pos rfl] at hsy
        clear ha hb
        go_wp2_with fail
        go_quiet (fail)
        go_wp2
        go_ret
        exact ⟨⟨false, rfl, fun h => by cases h⟩, HBN.out _⟩
      · rw [ha, if_pos rfl] at hsx
        rw [hb, if_neg (by simp)] at hsy
        have HE : Hid (x.testBit k = true ∧ y.testBit k = false) := ⟨ha, hb⟩
        clear ha hb
        go_wp2_with fail
        go_quiet (fail)
        go_wp2
        go_ret
        exact ⟨⟨true, rfl, fun _ => ⟨k, hlt, H1.out, HE.out.1, HE.out.2⟩⟩, HBN.out _⟩
      · rw [ha, if_pos rfl] at hsx
        rw [hb, if_pos rfl] at hsy
        have HE : Hid (x.testBit k = y.testBit k) := by rw [ha, hb]; rfl
        clear ha hb
        go_wp2_with fail
        go_quiet (fail)
        go_wp2
        go_roundw
        case rel => exact ⟨k + 1, hlt, by go_num, fun j hj => (by
          rcases Nat.lt_succ_iff_lt_or_eq.1 hj with e | e
          · exact H1.out j e
          · rw [e]; exact HE.out), HBN.out _⟩
        case measure => simp [intOf]; omega
    · obtain rfl : k = v := by omega
      go_wp2
      go_ret
      exact ⟨⟨false, rfl, fun h => by cases h⟩, HBR.out⟩
end Go.Proofs.Ytapdeangogjbeaa
