/- Holds, AllHold, and the reference's. -/
import Derived.Test.YtljeigdkbnichaaGreatDoorClErr
import Derived.Test.YtljeigdkbnichaaGreatDoorClBaseI
import Derived.WalkSmall
namespace Go.Proofs.YtljeigdkbnichaaGreatDoor
open Go.RowKit

/-- A literal over so many variables. -/
def litB (v x : Int) : Bool := decide (x ≠ 0 ∧ -v ≤ x ∧ x ≤ v)

set_option maxRecDepth 100000 in
set_option maxHeartbeats 1000000 in
theorem literal_any (x v : Int) (h0 : 0 ≤ v) (h1 : v ≤ 24) (w : World) :
    Calls Tryz.prog 142 #[.int .i64 x, .int .i64 v] w fun e w' => e = .returned (.bool (litB v x)) ∧ w = w' := by
  by_cases hx : x = 0
  · have e : litB v x = false := by simp [litB, hx]
    rw [e]
    go_enter Tryz.func142, Tryz.ntmps142
    go_wp2
    go_ret
    exact ⟨rfl, rfl⟩
  · by_cases h2 : -v ≤ x
    · by_cases h3 : x ≤ v
      · have e : litB v x = true := by simp [litB, hx, h2, h3]
        rw [e]
        have hx' : (x != 0) = true := by simpa using hx
        go_enter Tryz.func142, Tryz.ntmps142
        go_wp2
        go_ret
        exact ⟨rfl, rfl⟩
      · have e : litB v x = false := by simp [litB, h3]
        rw [e]
        go_enter Tryz.func142, Tryz.ntmps142
        go_wp2
        go_ret
        exact ⟨rfl, rfl⟩
    · have e : litB v x = false := by simp [litB, h2]
      rw [e]
      go_enter Tryz.func142, Tryz.ntmps142
      go_wp2
      go_ret
      exact ⟨rfl, rfl⟩

end Go.Proofs.YtljeigdkbnichaaGreatDoor

namespace Go.Proofs.YtljeigdkbnichaaGreatDoor
open Go.RowKit

/-- What a literal says of values. -/
def litH (vals : Nat) (x : Int) : Bool := if 0 < x then vals.testBit (x.toNat - 1) else !vals.testBit ((-x).toNat - 1)
/-- As Holds has it: nothing holds of what is no literal. -/
def litK (vals : Nat) (x : Int) : Bool := litB 24 x && litH vals x
def holdK (vals : Nat) (c : List Int) : Bool := c.any (litK vals)

theorem shr_bit1 (vals t : Nat) (hv : vals < 18446744073709551616) : (bits BinOp.and IntKind.u64 ((vals : Int) / 2 ^ t) 1 == 1) = vals.testBit t := by
  have e : (vals : Int) / 2 ^ t = ((vals / 2 ^ t : Nat) : Int) := by simp
  have hd : vals / 2 ^ t ≤ vals := Nat.div_le_self _ _
  rw [e, Nat.testBit_eq_decide_div_mod_eq]
  generalize vals / 2 ^ t = m at *
  rw [and_one_u64 _ (by omega) (by omega), Bool.eq_iff_iff]
  simp
  omega
theorem shr_bit0 (vals t : Nat) (hv : vals < 18446744073709551616) : (bits BinOp.and IntKind.u64 ((vals : Int) / 2 ^ t) 1 == 0) = !vals.testBit t := by
  have e : (vals : Int) / 2 ^ t = ((vals / 2 ^ t : Nat) : Int) := by simp
  have hd : vals / 2 ^ t ≤ vals := Nat.div_le_self _ _
  rw [e, Nat.testBit_eq_decide_div_mod_eq]
  generalize vals / 2 ^ t = m at *
  rw [and_one_u64 _ (by omega) (by omega), Bool.eq_iff_iff]
  simp
  omega

end Go.Proofs.YtljeigdkbnichaaGreatDoor

namespace Go.Proofs.YtljeigdkbnichaaGreatDoor
open Go.RowKit

set_option maxRecDepth 100000 in
set_option maxHeartbeats 1000000 in
theorem ix_cls (F : Nat) (cb : Array Value) (p : List Int → Bool) (xs : List (List Int)) (a : Option Addr) (cap : Nat) (w : World) (hm : xs.length ≤ 9223372036854775807)
    (hent : ∀ args w, (callFunc F args).run Tryz.prog w = .ok (.enter F args) w) (hI : ClsIn w a xs)
    (hf : ∀ W i (a' : Option Addr) (cap' : Nat), Below w.heap.size w W → i < xs.length → cap' ≤ 9223372036854775807 → (xs.getD i []).length ≤ cap' → IntsIn W a' (xs.getD i []) → Calls Tryz.prog F (#[.slice a' (xs.getD i []).length cap'] ++ cb) W fun e w' => e = .returned (.bool (p (xs.getD i []))) ∧ Below W.heap.size W w') :
    Calls Tryz.prog 139 #[.slice a xs.length cap, .func (.func F) #[] cb] w fun e w' => e = .returned (.int .i64 (idxF p xs)) ∧ Below w.heap.size w w' := by
  have HF := Lib.hid hf
  have HI := Lib.hid hI
  clear hf hI
  go_enter Tryz.func139, Tryz.ntmps139
  go_wp2_with fail
  go_loopw [8] (fun kV wr => ∃ k : Nat, k ≤ xs.length ∧ kV = .int .i64 (k : Int) ∧ (∀ j, j < k → p (xs.getD j []) = false) ∧ Below w.heap.size w wr) (fun kV _ => xs.length - (intOf kV).toNat)
  case atStart => exact ⟨0, Nat.zero_le _, rfl, fun j h => by omega, Below.refl _ _⟩
  case round =>
    obtain ⟨k, hk, rfl, h1, hbr⟩ := hrel
    have H1 := Lib.hid h1
    have HBR := Lib.hid hbr
    clear h1 hbr
    by_cases hlt : k < xs.length
    · obtain ⟨ad, a', cap', rfl, hl, hc, g1, g2, g3⟩ := HI.out.below HBR.out k hlt
      have HC := Lib.hid (HF.out wr k a' cap' HBR.out hlt g2 g1 g3)
      clear g3 g1 g2
      cases hp : p (xs.getD k []) with
      | true =>
        rw [hp] at HC
        have HP := Lib.hid hp
        clear hp
        generalize hx : xs.getD k [] = x at *
        have HX := Lib.hid hx
        clear hx
        go_wp2_with fail
        refine HC.out.mono ?_
        rintro e w1 ⟨rfl, hb1⟩
        have HB1 : Hid (Below w.heap.size w w1) := HBR.out.trans (hb1.mono HBR.out.size)
        clear hb1 HC
        go_wp2
        go_ret
        exact ⟨by rw [idxF_hit H1.out hlt (by rw [HX.out]; exact HP.out)]; rfl, HB1.out⟩
      | false =>
        rw [hp] at HC
        have HP := Lib.hid hp
        clear hp
        generalize hx : xs.getD k [] = x at *
        have HX := Lib.hid hx
        clear hx
        go_wp2_with fail
        refine HC.out.mono ?_
        rintro e w1 ⟨rfl, hb1⟩
        have HB1 : Hid (Below w.heap.size w w1) := HBR.out.trans (hb1.mono HBR.out.size)
        clear hb1 HC
        go_wp2
        go_roundw
        case rel => exact ⟨k + 1, hlt, by go_num, fun j hj => (by
          rcases Nat.lt_succ_iff_lt_or_eq.1 hj with e | e
          · exact H1.out j e
          · rw [e, HX.out]; exact HP.out), HB1.out⟩
        case measure => simp [intOf]; omega
    · obtain rfl : k = xs.length := by omega
      go_wp2
      go_ret
      exact ⟨by rw [idxF_none H1.out]; rfl, HBR.out⟩

set_option maxRecDepth 100000 in
set_option maxHeartbeats 1000000 in
theorem cf_cls (F : Nat) (cb : Array Value) (p : List Int → Bool) (xs : List (List Int)) (a : Option Addr) (cap : Nat) (w : World) (hm : xs.length ≤ 9223372036854775807)
    (hent : ∀ args w, (callFunc F args).run Tryz.prog w = .ok (.enter F args) w) (hI : ClsIn w a xs)
    (hf : ∀ W i (a' : Option Addr) (cap' : Nat), Below w.heap.size w W → i < xs.length → cap' ≤ 9223372036854775807 → (xs.getD i []).length ≤ cap' → IntsIn W a' (xs.getD i []) → Calls Tryz.prog F (#[.slice a' (xs.getD i []).length cap'] ++ cb) W fun e w' => e = .returned (.bool (p (xs.getD i []))) ∧ Below W.heap.size W w') :
    Calls Tryz.prog 109 #[.slice a xs.length cap, .func (.func F) #[] cb] w fun e w' => e = .returned (.bool (xs.any p)) ∧ Below w.heap.size w w' := by
  have H := Lib.hid (ix_cls F cb p xs a cap w hm hent hI hf)
  clear hf hI hent
  rw [← idxF_any]
  generalize idxF p xs = i at *
  go_enter Tryz.func109, Tryz.ntmps109
  go_wp2_with fail
  refine H.out.mono ?_
  rintro e w1 ⟨rfl, hb1⟩
  have HB1 := Lib.hid hb1
  clear hb1 H
  go_wp2
  go_ret
  exact ⟨by first | rfl | simp, HB1.out⟩
end Go.Proofs.YtljeigdkbnichaaGreatDoor

namespace Go.Proofs.YtljeigdkbnichaaGreatDoor
open Go.RowKit

set_option maxRecDepth 100000 in
set_option maxHeartbeats 1000000 in
theorem holds1_any (x : Int) (vals : Nat) (hv : vals < 18446744073709551616) (b : Nat) (w : World) (hc : w.cell? ⟨b, 0, none⟩ = some (.int .u64 (vals : Int))) :
    Calls Tryz.prog 141 #[.int .i64 x, .pointer (some ⟨b, 0, none⟩)] w fun e w' => e = .returned (.bool (litK vals x)) ∧ w = w' := by
  have HL := Lib.hid (literal_any x 24 (by omega) (by omega) w)
  cases hb : litB 24 x with
  | false =>
    rw [hb] at HL
    have e : litK vals x = false := by unfold litK; rw [hb]; rfl
    rw [e]
    clear e hb
    go_enter Tryz.func141, Tryz.ntmps141
    go_wp2_with fail
    refine HL.out.mono ?_
    rintro e w1 ⟨rfl, rfl⟩
    go_wp2
    go_ret
    exact ⟨rfl, rfl⟩
  | true =>
    rw [hb] at HL
    have e : litK vals x = litH vals x := by unfold litK; rw [hb]; rfl
    rw [e]
    have hx : x ≠ 0 ∧ -24 ≤ x ∧ x ≤ 24 := by simpa [litB] using hb
    clear e hb
    by_cases hp : 0 < x
    · obtain ⟨t, rfl⟩ : ∃ t : Nat, x = (t : Int) + 1 := ⟨x.toNat - 1, by omega⟩
      have hh : litH vals ((t : Int) + 1) = vals.testBit t := by unfold litH; rw [if_pos hp]; congr 1
      rw [hh]
      have ht : t < 24 := by omega
      have hs := shr_bit1 vals t hv
      clear hx hh
      go_enter Tryz.func141, Tryz.ntmps141
      go_wp2_with fail
      refine HL.out.mono ?_
      rintro e w1 ⟨rfl, rfl⟩
      clear HL
      go_wp2
      go_ret
      exact ⟨by first | rfl | simp, rfl⟩
    · obtain ⟨t, rfl⟩ : ∃ t : Nat, x = -((t : Int) + 1) := ⟨(-x).toNat - 1, by omega⟩
      have hh : litH vals (-((t : Int) + 1)) = !vals.testBit t := by
        unfold litH; rw [if_neg hp, show (- -((t : Int) + 1)).toNat - 1 = t by omega]
      rw [hh]
      have ht : t < 24 := by omega
      have hs := shr_bit0 vals t hv
      clear hx hh
      go_enter Tryz.func141, Tryz.ntmps141
      go_wp2_with fail
      refine HL.out.mono ?_
      rintro e w1 ⟨rfl, rfl⟩
      clear HL
      go_wp2
      go_ret
      exact ⟨by first | rfl | simp, rfl⟩

set_option maxRecDepth 100000 in
theorem ent_holds1 : ∀ args w, (callFunc 141 args).run Tryz.prog w = .ok (.enter 141 args) w := by intro args w; kernel_rfl
set_option maxRecDepth 100000 in
theorem ent_allHold1 : ∀ args w, (callFunc 110 args).run Tryz.prog w = .ok (.enter 110 args) w := by intro args w; kernel_rfl

set_option maxRecDepth 100000 in
set_option maxHeartbeats 1000000 in
theorem holds_any (c : List Int) (a : Option Addr) (cap : Nat) (vals : Nat) (hv : vals < 18446744073709551616) (w : World) (hI : IntsIn w a c) (hm : c.length ≤ 9223372036854775807) :
    Calls Tryz.prog 111 #[.slice a c.length cap, .int .u64 (vals : Int)] w fun e w' => e = .returned (.bool (holdK vals c)) ∧ Below w.heap.size w w' := by
  have hb := below_new w (.cells #[.int .u64 (vals : Int)] 105)
  have HC := Lib.hid (cf_ints 141 #[.pointer (some ⟨w.heap.size, 0, none⟩)] (litK vals) c a cap (w.alloc (.cells #[.int .u64 (vals : Int)] 105)) hm ent_holds1 (hI.below hb) (fun W i hW hi => (holds1_any (c.getD i 0) vals hv w.heap.size W ((hW.cell (p := ⟨w.heap.size, 0, none⟩) (by simp)).trans (by simp))).mono fun e w' ⟨he, hw⟩ => ⟨he, hw ▸ Below.refl _ _⟩))
  have HB := Lib.hid hb
  clear hb hI
  show Calls Tryz.prog 111 _ w fun e w' => e = .returned (.bool (c.any (litK vals))) ∧ _
  generalize c.any (litK vals) = B at *
  go_enter Tryz.func111, Tryz.ntmps111
  go_wp2_with fail
  refine HC.out.mono ?_
  rintro e w1 ⟨rfl, hb1⟩
  have HB1 : Hid (Below w.heap.size w w1) := HB.out.trans (hb1.mono HB.out.size)
  clear hb1 HC
  go_wp2
  go_ret
  exact ⟨rfl, HB1.out⟩

set_option maxRecDepth 100000 in
set_option maxHeartbeats 1000000 in
theorem allHold1_any (c : List Int) (a : Option Addr) (cap : Nat) (vals : Nat) (hv : vals < 18446744073709551616) (b : Nat) (w : World) (hc : w.cell? ⟨b, 0, none⟩ = some (.int .u64 (vals : Int))) (hI : IntsIn w a c) (hm : c.length ≤ 9223372036854775807) :
    Calls Tryz.prog 110 #[.slice a c.length cap, .pointer (some ⟨b, 0, none⟩)] w fun e w' => e = .returned (.bool (!holdK vals c)) ∧ Below w.heap.size w w' := by
  have HC := Lib.hid (holds_any c a cap vals hv w hI hm)
  clear hI
  generalize holdK vals c = B at *
  go_enter Tryz.func110, Tryz.ntmps110
  go_wp2_with fail
  refine HC.out.mono ?_
  rintro e w1 ⟨rfl, hb1⟩
  have HB1 := Lib.hid hb1
  clear hb1 HC
  go_wp2
  go_ret
  exact ⟨by first | rfl | simp, HB1.out⟩

def allK (vals : Nat) (l : List (List Int)) : Bool := l.all (holdK vals)
theorem allK_eq (vals : Nat) (l : List (List Int)) : allK vals l = !(l.any fun c => !holdK vals c) := by
  unfold allK; rw [List.all_eq_not_any_not]

set_option maxRecDepth 100000 in
set_option maxHeartbeats 1000000 in
theorem allHold_any (l : List (List Int)) (a : Option Addr) (cap : Nat) (vals : Nat) (hv : vals < 18446744073709551616) (w : World) (hI : ClsIn w a l) (hm : l.length ≤ 9223372036854775807) :
    Calls Tryz.prog 57 #[.slice a l.length cap, .int .u64 (vals : Int)] w fun e w' => e = .returned (.bool (allK vals l)) ∧ Below w.heap.size w w' := by
  have hb := below_new w (.cells #[.int .u64 (vals : Int)] 105)
  have HC := Lib.hid (cf_cls 110 #[.pointer (some ⟨w.heap.size, 0, none⟩)] (fun c => !holdK vals c) l a cap (w.alloc (.cells #[.int .u64 (vals : Int)] 105)) hm ent_allHold1 (hI.below hb) (fun W i a' cap' hW hi h1 h2 h3 => allHold1_any (l.getD i []) a' cap' vals hv w.heap.size W ((hW.cell (p := ⟨w.heap.size, 0, none⟩) (by simp)).trans (by simp)) h3 (by omega)))
  have HB := Lib.hid hb
  clear hb hI
  rw [allK_eq]
  generalize (l.any fun c => !holdK vals c) = B at *
  go_enter Tryz.func57, Tryz.ntmps57
  go_wp2_with fail
  refine HC.out.mono ?_
  rintro e w1 ⟨rfl, hb1⟩
  have HB1 : Hid (Below w.heap.size w w1) := HB.out.trans (hb1.mono HB.out.size)
  clear hb1 HC
  go_wp2
  go_ret
  exact ⟨by first | rfl | simp, HB1.out⟩
end Go.Proofs.YtljeigdkbnichaaGreatDoor
