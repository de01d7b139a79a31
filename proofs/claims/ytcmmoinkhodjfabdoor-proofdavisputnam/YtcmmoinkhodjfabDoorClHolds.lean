/- Holds, AllHold, and the reference's. -/
import Derived.Test.YtcmmoinkhodjfabDoorClLit
import Derived.Test.YtcmmoinkhodjfabDoorClBase
namespace Go.Proofs.YtcmmoinkhodjfabDoor
open Go.RowKit

set_option maxRecDepth 100000 in
set_option maxHeartbeats 1000000 in
theorem holds1_any (x : Int) (vals : Nat) (hv : vals < 18446744073709551616) (b : Nat) (w : World) (hc : w.cell? ⟨b, 0, none⟩ = some (.int .u64 (vals : Int))) :
    Calls Tryd.prog 29 #[.int .i64 x, .pointer (some ⟨b, 0, none⟩)] w fun e w' => e = .returned (.bool (litK vals x)) ∧ w = w' := by
  have HL := Lib.hid (literal_any x 24 (by omega) (by omega) w)
  cases hb : litB 24 x with
  | false =>
    rw [hb] at HL
    have e : litK vals x = false := by unfold litK; rw [hb]; rfl
    rw [e]
    clear e hb
    go_enter Tryd.func29, Tryd.ntmps29
    go_wp2_with fail
    refine HL.out.mono ?_
    rintro e w1 ⟨rfl, rfl⟩
    go_wp2
    go_ret
    exact ⟨rfl, rfl⟩
  | true =>
    rw [hb] at HL
    have e : litK vals x = litH vals x := by unfold litK; rw [hb]; rfl
    rw [e]
    have hx : x ≠ 0 ∧ -24 ≤ x ∧ x ≤ 24 := by simpa [litB] using hb
    clear e hb
    by_cases hp : 0 < x
    · obtain ⟨t, rfl⟩ : ∃ t : Nat, x = (t : Int) + 1 := ⟨x.toNat - 1, by omega⟩
      have hh : litH vals ((t : Int) + 1) = vals.testBit t := by unfold litH; rw [if_pos hp]; congr 1
      rw [hh]
      have ht : t < 24 := by omega
      have hs := shr_bit1 vals t hv
      clear hx hh
      go_enter Tryd.func29, Tryd.ntmps29
      go_wp2_with fail
      refine HL.out.mono ?_
      rintro e w1 ⟨rfl, rfl⟩
      clear HL
      go_wp2
      go_ret
      exact ⟨by first | rfl | simp, rfl⟩
    · obtain ⟨t, rfl⟩ : ∃ t : Nat, x = -((t : Int) + 1) := ⟨(-x).toNat - 1, by omega⟩
      have hh : litH vals (-((t : Int) + 1)) = !vals.testBit t := by
        unfold litH; rw [if_neg hp, show (- -((t : Int) + 1)).toNat - 1 = t by omega]
      rw [hh]
      have ht : t < 24 := by omega
      have hs := shr_bit0 vals t hv
      clear hx hh
      go_enter Tryd.func29, Tryd.ntmps29
      go_wp2_with fail
      refine HL.out.mono ?_
      rintro e w1 ⟨rfl, rfl⟩
      clear HL
      go_wp2
      go_ret
      exact ⟨by first | rfl | simp, rfl⟩

set_option maxRecDepth 100000 in
theorem ent_holds1 : ∀ args w, (callFunc 29 args).run Tryd.prog w = .ok (.enter 29 args) w := by intro args w; kernel_rfl
set_option maxRecDepth 100000 in
theorem ent_allHold1 : ∀ args w, (callFunc 43 args).run Tryd.prog w = .ok (.enter 43 args) w := by intro args w; kernel_rfl

set_option maxRecDepth 100000 in
set_option maxHeartbeats 1000000 in
theorem holds_any (c : List Int) (a : Option Addr) (cap : Nat) (vals : Nat) (hv : vals < 18446744073709551616) (w : World) (hI : IntsIn w a c) (hm : c.length ≤ 9223372036854775807) :
    Calls Tryd.prog 13 #[.slice a c.length cap, .int .u64 (vals : Int)] w fun e w' => e = .returned (.bool (holdK vals c)) ∧ Below w.heap.size w w' := by
  have hb := below_new w (.cells #[.int .u64 (vals : Int)] 24)
  have HC := Lib.hid (cf_ints 29 #[.pointer (some ⟨w.heap.size, 0, none⟩)] (litK vals) c a cap (w.alloc (.cells #[.int .u64 (vals : Int)] 24)) hm ent_holds1 (hI.below hb) (fun W i hW hi => (holds1_any (c.getD i 0) vals hv w.heap.size W ((hW.cell (p := ⟨w.heap.size, 0, none⟩) (by simp)).trans (by simp))).mono fun e w' ⟨he, hw⟩ => ⟨he, hw ▸ Below.refl _ _⟩))
  have HB := Lib.hid hb
  clear hb hI
  show Calls Tryd.prog 13 _ w fun e w' => e = .returned (.bool (c.any (litK vals))) ∧ _
  generalize c.any (litK vals) = B at *
  go_enter Tryd.func13, Tryd.ntmps13
  go_wp2_with fail
  refine HC.out.mono ?_
  rintro e w1 ⟨rfl, hb1⟩
  have HB1 : Hid (Below w.heap.size w w1) := HB.out.trans (hb1.mono HB.out.size)
  clear hb1 HC
  go_wp2
  go_ret
  exact ⟨rfl, HB1.out⟩

set_option maxRecDepth 100000 in
set_option maxHeartbeats 1000000 in
theorem allHold1_any (c : List Int) (a : Option Addr) (cap : Nat) (vals : Nat) (hv : vals < 18446744073709551616) (b : Nat) (w : World) (hc : w.cell? ⟨b, 0, none⟩ = some (.int .u64 (vals : Int))) (hI : IntsIn w a c) (hm : c.length ≤ 9223372036854775807) :
    Calls Tryd.prog 43 #[.slice a c.length cap, .pointer (some ⟨b, 0, none⟩)] w fun e w' => e = .returned (.bool (!holdK vals c)) ∧ Below w.heap.size w w' := by
  have HC := Lib.hid (holds_any c a cap vals hv w hI hm)
  clear hI
  generalize holdK vals c = B at *
  go_enter Tryd.func43, Tryd.ntmps43
  go_wp2_with fail
  refine HC.out.mono ?_
  rintro e w1 ⟨rfl, hb1⟩
  have HB1 := Lib.hid hb1
  clear hb1 HC
  go_wp2
  go_ret
  exact ⟨by first | rfl | simp, HB1.out⟩

def allK (vals : Nat) (l : List (List Int)) : Bool := l.all (holdK vals)
theorem allK_eq (vals : Nat) (l : List (List Int)) : allK vals l = !(l.any fun c => !holdK vals c) := by
  unfold allK; rw [List.all_eq_not_any_not]

set_option maxRecDepth 100000 in
set_option maxHeartbeats 1000000 in
theorem allHold_any (l : List (List Int)) (a : Option Addr) (cap : Nat) (vals : Nat) (hv : vals < 18446744073709551616) (w : World) (hI : ClsIn w a l) (hm : l.length ≤ 9223372036854775807) :
    Calls Tryd.prog 18 #[.slice a l.length cap, .int .u64 (vals : Int)] w fun e w' => e = .returned (.bool (allK vals l)) ∧ Below w.heap.size w w' := by
  have hb := below_new w (.cells #[.int .u64 (vals : Int)] 24)
  have HC := Lib.hid (cf_cls 43 #[.pointer (some ⟨w.heap.size, 0, none⟩)] (fun c => !holdK vals c) l a cap (w.alloc (.cells #[.int .u64 (vals : Int)] 24)) hm ent_allHold1 (hI.below hb) (fun W i a' cap' hW hi h1 h2 h3 => allHold1_any (l.getD i []) a' cap' vals hv w.heap.size W ((hW.cell (p := ⟨w.heap.size, 0, none⟩) (by simp)).trans (by simp)) h3 (by omega)))
  have HB := Lib.hid hb
  clear hb hI
  rw [allK_eq]
  generalize (l.any fun c => !holdK vals c) = B at *
  go_enter Tryd.func18, Tryd.ntmps18
  go_wp2_with fail
  refine HC.out.mono ?_
  rintro e w1 ⟨rfl, hb1⟩
  have HB1 : Hid (Below w.heap.size w w1) := HB.out.trans (hb1.mono HB.out.size)
  clear hb1 HC
  go_wp2
  go_ret
  exact ⟨by first | rfl | simp, HB1.out⟩
end Go.Proofs.YtcmmoinkhodjfabDoor
