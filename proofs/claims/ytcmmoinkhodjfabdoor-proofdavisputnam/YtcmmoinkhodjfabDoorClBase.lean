/- The first clause of which something is true. -/
import Derived.Test.YtcmmoinkhodjfabDoorClBaseI
namespace Go.Proofs.YtcmmoinkhodjfabDoor
open Go.RowKit

set_option maxRecDepth 100000 in
set_option maxHeartbeats 1000000 in
theorem ix_cls (F : Nat) (cb : Array Value) (p : List Int → Bool) (xs : List (List Int)) (a : Option Addr) (cap : Nat) (w : World) (hm : xs.length ≤ 9223372036854775807)
    (hent : ∀ args w, (callFunc F args).run Tryd.prog w = .ok (.enter F args) w) (hI : ClsIn w a xs)
    (hf : ∀ W i (a' : Option Addr) (cap' : Nat), Below w.heap.size w W → i < xs.length → cap' ≤ 9223372036854775807 → (xs.getD i []).length ≤ cap' → IntsIn W a' (xs.getD i []) → Calls Tryd.prog F (#[.slice a' (xs.getD i []).length cap'] ++ cb) W fun e w' => e = .returned (.bool (p (xs.getD i []))) ∧ Below W.heap.size W w') :
    Calls Tryd.prog 55 #[.slice a xs.length cap, .func (.func F) #[] cb] w fun e w' => e = .returned (.int .i64 (idxF p xs)) ∧ Below w.heap.size w w' := by
  have HF := Lib.hid hf
  have HI := Lib.hid hI
  clear hf hI
  go_enter Tryd.func55, Tryd.ntmps55
  go_wp2_with fail
  go_loopw [8] (fun kV wr => ∃ k : Nat, k ≤ xs.length ∧ kV = .int .i64 (k : Int) ∧ (∀ j, j < k → p (xs.getD j []) = false) ∧ Below w.heap.size w wr) (fun kV _ => xs.length - (intOf kV).toNat)
  case atStart => exact ⟨0, Nat.zero_le _, rfl, fun j h => by omega, Below.refl _ _⟩
  case round =>
    obtain ⟨k, hk, rfl, h1, hbr⟩ := hrel
    have H1 := Lib.hid h1
    have HBR := Lib.hid hbr
    clear h1 hbr
    by_cases hlt : k < xs.length
    · obtain ⟨ad, a', cap', rfl, hl, hc, g1, g2, g3⟩ := HI.out.below HBR.out k hlt
      have HC := Lib.hid (HF.out wr k a' cap' HBR.out hlt g2 g1 g3)
      clear g3 g1 g2
      cases hp : p (xs.getD k []) with
      | true =>
        rw [hp] at HC
        have HP := Lib.hid hp
        clear hp
        generalize hx : xs.getD k [] = x at *
        have HX := Lib.hid hx
        clear hx
        go_wp2_with fail
        refine HC.out.mono ?_
        rintro e w1 ⟨rfl, hb1⟩
        have HB1 : Hid (Below w.heap.size w w1) := HBR.out.trans (hb1.mono HBR.out.size)
        clear hb1 HC
        go_wp2
        go_ret
        exact ⟨by rw [idxF_hit H1.out hlt (by rw [HX.out]; exact HP.out)]; rfl, HB1.out⟩
      | false =>
        rw [hp] at HC
        have HP := Lib.hid hp
        clear hp
        generalize hx : xs.getD k [] = x at *
        have HX := Lib.hid hx
        clear hx
        go_wp2_with fail
        refine HC.out.mono ?_
        rintro e w1 ⟨rfl, hb1⟩
        have HB1 : Hid (Below w.heap.size w w1) := HBR.out.trans (hb1.mono HBR.out.size)
        clear hb1 HC
        go_wp2
        go_roundw
        case rel => exact ⟨k + 1, hlt, by go_num, fun j hj => (by
          rcases Nat.lt_succ_iff_lt_or_eq.1 hj with e | e
          · exact H1.out j e
          · rw [e, HX.out]; exact HP.out), HB1.out⟩
        case measure => simp [intOf]; omega
    · obtain rfl : k = xs.length := by omega
      go_wp2
      go_ret
      exact ⟨by rw [idxF_none H1.out]; rfl, HBR.out⟩

set_option maxRecDepth 100000 in
set_option maxHeartbeats 1000000 in
theorem cf_cls (F : Nat) (cb : Array Value) (p : List Int → Bool) (xs : List (List Int)) (a : Option Addr) (cap : Nat) (w : World) (hm : xs.length ≤ 9223372036854775807)
    (hent : ∀ args w, (callFunc F args).run Tryd.prog w = .ok (.enter F args) w) (hI : ClsIn w a xs)
    (hf : ∀ W i (a' : Option Addr) (cap' : Nat), Below w.heap.size w W → i < xs.length → cap' ≤ 9223372036854775807 → (xs.getD i []).length ≤ cap' → IntsIn W a' (xs.getD i []) → Calls Tryd.prog F (#[.slice a' (xs.getD i []).length cap'] ++ cb) W fun e w' => e = .returned (.bool (p (xs.getD i []))) ∧ Below W.heap.size W w') :
    Calls Tryd.prog 42 #[.slice a xs.length cap, .func (.func F) #[] cb] w fun e w' => e = .returned (.bool (xs.any p)) ∧ Below w.heap.size w w' := by
  have H := Lib.hid (ix_cls F cb p xs a cap w hm hent hI hf)
  clear hf hI hent
  rw [← idxF_any]
  generalize idxF p xs = i at *
  go_enter Tryd.func42, Tryd.ntmps42
  go_wp2_with fail
  refine H.out.mono ?_
  rintro e w1 ⟨rfl, hb1⟩
  have HB1 := Lib.hid hb1
  clear hb1 H
  go_wp2
  go_ret
  exact ⟨by first | rfl | simp, HB1.out⟩
end Go.Proofs.YtcmmoinkhodjfabDoor
