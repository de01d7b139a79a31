/- PlanRules, plain: what fits is just what the rules allow. -/
import Derived.Test.YtpmpnbbihmgdpaaGreatDoorCtMem
import Derived.Test.YtpmpnbbihmgdpaaGreatDoorPlPlanP
import Derived.Test.YtpmpnbbihmgdpaaGreatDoorPlOrder
import Derived.Test.YtpmpnbbihmgdpaaGreatDoorCtParse
import Derived.Test.YtpmpnbbihmgdpaaGreatDoorSvSpan
import Derived.Test.YtpmpnbbihmgdpaaGreatDoorPlSmall
import Derived.Test.YtpmpnbbihmgdpaaGreatDoorPlMath
set_option maxHeartbeats 2000000
set_option maxRecDepth 100000
namespace Go.Proofs.YtpmpnbbihmgdpaaGreatDoor
section
open Go.RowKit Go.Deep
theorem same_intsK (xs : List Int) (a1 a2 : Option Addr) (c1 c2 : Nat) (w : World) (h1 : IntsIn w a1 xs) (h2 : IntsIn w a2 xs) (hm : xs.length <= 9223372036854775807) :
  Calls Tryz.prog 68 #[.slice a1 xs.length c1, .slice a2 xs.length c2] w fun e w' => e = .returned (.bool true) /\ Below w.heap.size w w' := by
 have H1 := Lib.hid h1
 have H2 := Lib.hid h2
 clear h1 h2
 have enn : ((xs.length : Int) != (xs.length : Int)) = false := by simp
 go_enter Tryz.func68, Tryz.ntmps68
 go_wp2_with fail
 go_loopw [5] (fun kV wr => ∃ k : Nat, k <= xs.length /\ kV = .int .i64 (k : Int) /\ Below w.heap.size w wr) (fun kV _ => xs.length - (intOf kV).toNat)
 case atStart => exact ⟨0, Nat.zero_le _, rfl, Below.refl _ _⟩
 case round =>
  obtain ⟨k, hk, rfl, hbr⟩ := hrel
  have HBR := Lib.hid hbr
  clear hbr
  by_cases hlt : k < xs.length
  ·obtain ⟨ad1, rfl, hl1, hc1⟩ := H1.out.below HBR.out k hlt
   obtain ⟨ad2, rfl, hl2, hc2⟩ := H2.out.below HBR.out k hlt
   generalize xs.getD k 0 = x at *
   have exx : (x != x) = false := by simp
   have HBN : Hid (∀ q, Below w.heap.size w (wr.drewN q)) := fun q => HBR.out.trans ⟨rfl, rfl, rfl, Nat.le_refl _, fun _ _ => rfl⟩
   go_wp2_with fail
   go_quiet (fail)
   go_wp2
   go_roundw
   case rel => exact ⟨k + 1, hlt, by go_num, HBN.out _⟩
   case measure => simp [intOf]; omega
  ·obtain rfl : k = xs.length := by omega
   go_wp2
   go_ret
   exact ⟨rfl, HBR.out⟩
end
section
open Go.RowKit Go.Deep Sv
theorem lit2_inP (W : World) (x y : Int) : IntsIn (W.alloc (.cells #[.int .i64 x, .int .i64 y] 3)) (some ⟨W.heap.size, 0, none⟩) [x, y] := fun i hi => by
 have hB := Blk.new W 3 #[.int .i64 x, .int .i64 y]
 refine ⟨_, rfl, hB.lt, ?_⟩
 rw [add_plain, Nat.zero_add, hB.cell i]
 match i, hi with
 | 0, _ => rfl
 | 1, _ => rfl
theorem planned_c (w : World) (hw : Lw w) : Calls Tryz.prog 36 #[] w fun e w' => e = .returned (.bool true) /\ Below w.heap.size w w' := by
 have HP0 := parse_any_c plnT w hw
 rw [pln_parse] at HP0
 have HP : Hid (Calls Tryz.prog 42 #[.string plnT] w fun e w' => ∃ bc, e = .returned (.tuple #[.pointer (some ⟨bc, 0, none⟩), .nilIface]) /\ CatAt w' bc plnL plnI /\ Below w.heap.size w w') := by
  refine HP0.mono ?_
  rintro e w' ⟨bc, vs, rfl, q1, -, q3⟩
  exact ⟨bc, rfl, q1.cat, q3⟩
 have HC : Hid (∀ W bc, CatAt W bc plnL plnI -> Calls Tryz.prog 33 #[.pointer (some ⟨bc, 0, none⟩), .int .u64 3] W fun e w' => ∃ a c, e = .returned (.tuple #[.slice a 2 c, .nilIface]) /\ IntsIn w' a [1, 0] /\ Below W.heap.size W w') := fun W bc hcat => by
  have h := order_c bc plnL plnI pln_new 3 W hcat (by decide)
  rw [pln_order3] at h
  refine h.mono ?_
  rintro e w' ⟨v, rfl, hr, hb⟩
  obtain ⟨a, c, rfl, -⟩ := row_form hr
  exact ⟨a, c, rfl, ints_row (B := W.heap.size) (c := c) (l := [1, 0]) hr, hb⟩
 have HE : Hid (∀ W bc, CatAt W bc plnL plnI -> Calls Tryz.prog 33 #[.pointer (some ⟨bc, 0, none⟩), .int .u64 1] W fun e w' => e = .returned (.tuple #[.slice none 0 0, .iface 34 (.int .i64 13)]) /\ Below W.heap.size W w') := fun W bc hcat => by
  have h := order_c bc plnL plnI pln_new 1 W hcat (by decide)
  rw [pln_order1] at h
  exact h
 have HTE : Hid (∀ W, Below w.heap.size w W -> Calls Tryz.prog 28 #[.iface 34 (.int .i64 13)] W fun e w' => e = .returned (.int .i64 13) /\ Below W.heap.size W w') := fun W hb => tell_errno 13 W (hw.below hb).lb.glob
 have hT : plnT = ⟨#[112, 97, 99, 107, 97, 103, 101, 32, 97, 32, 49, 46, 48, 46, 48, 10, 112, 97, 99, 107, 97, 103, 101, 32, 98, 32, 49, 46, 48, 46, 48, 10, 110, 101, 101, 100, 115, 32, 97, 32, 49, 46, 48, 46, 48, 32, 98, 32, 97, 110, 121, 10]⟩ := rfl
 rw [hT] at HP
 clear HP0 hw hT
 go_enter Tryz.func36, Tryz.ntmps36
 go_wp2_with fail
 refine HP.out.mono ?_
 rintro e w1 ⟨bc, rfl, hcat, hb1⟩
 have HC1 := Lib.hid (HC.out w1 bc hcat)
 have HCAT := Lib.hid hcat
 have HB1 := Lib.hid hb1
 clear hcat hb1 HC HP
 go_wp2_with fail
 refine HC1.out.mono ?_
 rintro e w2 ⟨a, c, rfl, hi, hb2⟩
 have HE2 := Lib.hid (HE.out w2 bc (HCAT.out.below hb2 (Nat.le_refl _)))
 have HI2 := Lib.hid hi
 have HB2 := Lib.hid (HB1.out.trans (hb2.mono HB1.out.size))
 clear hi hb2 HC1 HB1 HCAT HE
 go_wp2_with fail
 refine HE2.out.mono ?_
 rintro e w3 ⟨rfl, hb3⟩
 have hbl := below_new w3 (.cells #[.int .i64 1, .int .i64 0] 3)
 have HS := Lib.hid (same_intsK [1, 0] a (some ⟨w3.heap.size, 0, none⟩) c 2 (w3.alloc (.cells #[.int .i64 1, .int .i64 0] 3)) ((HI2.out.below hb3).below hbl) (lit2_inP w3 1 0) (by simp))
 have HB3 := Lib.hid ((HB2.out.trans (hb3.mono HB2.out.size)).trans (hbl.mono (Nat.le_trans HB2.out.size hb3.size)))
 clear hb3 hbl HE2 HB2 HI2
 go_wp2_with fail
 refine HS.out.mono ?_
 rintro e w4 ⟨rfl, hb4⟩
 have HB4 := Lib.hid (HB3.out.trans (hb4.mono HB3.out.size))
 have HT4 := Lib.hid (HTE.out w4 HB4.out)
 clear hb4 HB3 HS HTE
 go_wp2_with fail
 refine HT4.out.mono ?_
 rintro e w5 ⟨rfl, hb5⟩
 have HB5 := Lib.hid (HB4.out.trans (hb5.mono HB4.out.size))
 clear hb5 HB4 HT4
 go_wp2
 go_ret
 exact ⟨rfl, HB5.out⟩
end
section
open Go.RowKit
theorem ix_cls (F : Nat) (cb : Array Value) (p : List Int -> Bool) (xs : List (List Int)) (a : Option Addr) (cap : Nat) (w : World) (hm : xs.length <= 9223372036854775807)
  (hent : ∀ args w, (callFunc F args).run Tryz.prog w = .ok (.enter F args) w) (hI : ClsIn w a xs)
  (hf : ∀ W i (a' : Option Addr) (cap' : Nat), Below w.heap.size w W -> i < xs.length -> cap' <= 9223372036854775807 -> (xs.getD i []).length <= cap' -> IntsIn W a' (xs.getD i []) -> Calls Tryz.prog F (#[.slice a' (xs.getD i []).length cap'] ++ cb) W fun e w' => e = .returned (.bool (p (xs.getD i []))) /\ Below W.heap.size W w') :
  Calls Tryz.prog 148 #[.slice a xs.length cap, .func (.func F) #[] cb] w fun e w' => e = .returned (.int .i64 (idxF p xs)) /\ Below w.heap.size w w' := by
 have HF := Lib.hid hf
 have HI := Lib.hid hI
 clear hf hI
 go_enter Tryz.func148, Tryz.ntmps148
 go_wp2_with fail
 go_loopw [8] (fun kV wr => ∃ k : Nat, k <= xs.length /\ kV = .int .i64 (k : Int) /\ (∀ j, j < k -> p (xs.getD j []) = false) /\ Below w.heap.size w wr) (fun kV _ => xs.length - (intOf kV).toNat)
 case atStart => exact ⟨0, Nat.zero_le _, rfl, fun j h => by omega, Below.refl _ _⟩
 case round =>
  obtain ⟨k, hk, rfl, h1, hbr⟩ := hrel
  have H1 := Lib.hid h1
  have HBR := Lib.hid hbr
  clear h1 hbr
  by_cases hlt : k < xs.length
  ·obtain ⟨ad, a', cap', rfl, hl, hc, g1, g2, g3⟩ := HI.out.below HBR.out k hlt
   have HC := Lib.hid (HF.out wr k a' cap' HBR.out hlt g2 g1 g3)
   clear g3 g1 g2
   cases hp : p (xs.getD k []) with
   | true =>
    rw [hp] at HC
    have HP := Lib.hid hp
    clear hp
    generalize hx : xs.getD k [] = x at *
    have HX := Lib.hid hx
    clear hx
    go_wp2_with fail
    refine HC.out.mono ?_
    rintro e w1 ⟨rfl, hb1⟩
    have HB1 : Hid (Below w.heap.size w w1) := HBR.out.trans (hb1.mono HBR.out.size)
    clear hb1 HC
    go_wp2
    go_ret
    exact ⟨by rw [idxF_hit H1.out hlt (by rw [HX.out]; exact HP.out)]; rfl, HB1.out⟩
   | false =>
    rw [hp] at HC
    have HP := Lib.hid hp
    clear hp
    generalize hx : xs.getD k [] = x at *
    have HX := Lib.hid hx
    clear hx
    go_wp2_with fail
    refine HC.out.mono ?_
    rintro e w1 ⟨rfl, hb1⟩
    have HB1 : Hid (Below w.heap.size w w1) := HBR.out.trans (hb1.mono HBR.out.size)
    clear hb1 HC
    go_wp2
    go_roundw
    case rel => exact ⟨k + 1, hlt, by go_num, fun j hj => (by
     rcases Nat.lt_succ_iff_lt_or_eq.1 hj with e | e
     ·exact H1.out j e
     ·rw [e, HX.out]; exact HP.out), HB1.out⟩
    case measure => simp [intOf]; omega
  ·obtain rfl : k = xs.length := by omega
   go_wp2
   go_ret
   exact ⟨by rw [idxF_none H1.out]; rfl, HBR.out⟩
theorem cf_cls (F : Nat) (cb : Array Value) (p : List Int -> Bool) (xs : List (List Int)) (a : Option Addr) (cap : Nat) (w : World) (hm : xs.length <= 9223372036854775807)
  (hent : ∀ args w, (callFunc F args).run Tryz.prog w = .ok (.enter F args) w) (hI : ClsIn w a xs)
  (hf : ∀ W i (a' : Option Addr) (cap' : Nat), Below w.heap.size w W -> i < xs.length -> cap' <= 9223372036854775807 -> (xs.getD i []).length <= cap' -> IntsIn W a' (xs.getD i []) -> Calls Tryz.prog F (#[.slice a' (xs.getD i []).length cap'] ++ cb) W fun e w' => e = .returned (.bool (p (xs.getD i []))) /\ Below W.heap.size W w') :
  Calls Tryz.prog 93 #[.slice a xs.length cap, .func (.func F) #[] cb] w fun e w' => e = .returned (.bool (xs.any p)) /\ Below w.heap.size w w' := by
 have H := Lib.hid (ix_cls F cb p xs a cap w hm hent hI hf)
 clear hf hI hent
 rw [<- idxF_any]
 generalize idxF p xs = i at *
 go_enter Tryz.func93, Tryz.ntmps93
 go_wp2_with fail
 refine H.out.mono ?_
 rintro e w1 ⟨rfl, hb1⟩
 have HB1 := Lib.hid hb1
 clear hb1 H
 go_wp2
 go_ret
 exact ⟨by first | rfl | simp, HB1.out⟩
end
section
open Go.RowKit
theorem holds1_any (x : Int) (vals : Nat) (hv : vals < 18446744073709551616) (b : Nat) (w : World) (hc : w.cell? ⟨b, 0, none⟩ = some (.int .u64 (vals : Int))) :
  Calls Tryz.prog 149 #[.int .i64 x, .pointer (some ⟨b, 0, none⟩)] w fun e w' => e = .returned (.bool (litK vals x)) /\ w = w' := by
 have HL := Lib.hid (literal_any x 24 (by omega) (by omega) w)
 cases hb : litB 24 x with
 | false =>
  rw [hb] at HL
  have e : litK vals x = false := by unfold litK; rw [hb]; rfl
  rw [e]
  clear e hb
  go_enter Tryz.func149, Tryz.ntmps149
  go_wp2_with fail
  refine HL.out.mono ?_
  rintro e w1 ⟨rfl, rfl⟩
  go_wp2
  go_ret
  exact ⟨rfl, rfl⟩
 | true =>
  rw [hb] at HL
  have e : litK vals x = litH vals x := by unfold litK; rw [hb]; rfl
  rw [e]
  have hx : x ≠ 0 /\ -24 <= x /\ x <= 24 := by simpa [litB] using hb
  clear e hb
  by_cases hp : 0 < x
  ·obtain ⟨t, rfl⟩ : ∃ t : Nat, x = (t : Int) + 1 := ⟨x.toNat - 1, by omega⟩
   have hh : litH vals ((t : Int) + 1) = vals.testBit t := by unfold litH; rw [if_pos hp]; congr 1
   rw [hh]
   have ht : t < 24 := by omega
   have hs := shr_bit1 vals t hv
   clear hx hh
   go_enter Tryz.func149, Tryz.ntmps149
   go_wp2_with fail
   refine HL.out.mono ?_
   rintro e w1 ⟨rfl, rfl⟩
   clear HL
   go_wp2
   go_ret
   exact ⟨by first | rfl | simp, rfl⟩
  ·obtain ⟨t, rfl⟩ : ∃ t : Nat, x = -((t : Int) + 1) := ⟨(-x).toNat - 1, by omega⟩
   have hh : litH vals (-((t : Int) + 1)) = !vals.testBit t := by
    unfold litH; rw [if_neg hp, show (- -((t : Int) + 1)).toNat - 1 = t by omega]
   rw [hh]
   have ht : t < 24 := by omega
   have hs := shr_bit0 vals t hv
   clear hx hh
   go_enter Tryz.func149, Tryz.ntmps149
   go_wp2_with fail
   refine HL.out.mono ?_
   rintro e w1 ⟨rfl, rfl⟩
   clear HL
   go_wp2
   go_ret
   exact ⟨by first | rfl | simp, rfl⟩
theorem ent_holds1 : ∀ args w, (callFunc 149 args).run Tryz.prog w = .ok (.enter 149 args) w := by intro args w; kernel_rfl
theorem ent_allHold1 : ∀ args w, (callFunc 94 args).run Tryz.prog w = .ok (.enter 94 args) w := by intro args w; kernel_rfl
theorem holds_any (c : List Int) (a : Option Addr) (cap : Nat) (vals : Nat) (hv : vals < 18446744073709551616) (w : World) (hI : IntsIn w a c) (hm : c.length <= 9223372036854775807) :
  Calls Tryz.prog 95 #[.slice a c.length cap, .int .u64 (vals : Int)] w fun e w' => e = .returned (.bool (holdK vals c)) /\ Below w.heap.size w w' := by
 have hb := below_new w (.cells #[.int .u64 (vals : Int)] 69)
 have HC := Lib.hid (cf_ints 149 #[.pointer (some ⟨w.heap.size, 0, none⟩)] (litK vals) c a cap (w.alloc (.cells #[.int .u64 (vals : Int)] 69)) hm ent_holds1 (hI.below hb) (fun W i hW hi => (holds1_any (c.getD i 0) vals hv w.heap.size W ((hW.cell (p := ⟨w.heap.size, 0, none⟩) (by simp)).trans (by simp))).mono fun e w' ⟨he, hw⟩ => ⟨he, hw ▸ Below.refl _ _⟩))
 have HB := Lib.hid hb
 clear hb hI
 show Calls Tryz.prog 95 _ w fun e w' => e = .returned (.bool (c.any (litK vals))) /\ _
 generalize c.any (litK vals) = B at *
 go_enter Tryz.func95, Tryz.ntmps95
 go_wp2_with fail
 refine HC.out.mono ?_
 rintro e w1 ⟨rfl, hb1⟩
 have HB1 : Hid (Below w.heap.size w w1) := HB.out.trans (hb1.mono HB.out.size)
 clear hb1 HC
 go_wp2
 go_ret
 exact ⟨rfl, HB1.out⟩
theorem allHold1_any (c : List Int) (a : Option Addr) (cap : Nat) (vals : Nat) (hv : vals < 18446744073709551616) (b : Nat) (w : World) (hc : w.cell? ⟨b, 0, none⟩ = some (.int .u64 (vals : Int))) (hI : IntsIn w a c) (hm : c.length <= 9223372036854775807) :
  Calls Tryz.prog 94 #[.slice a c.length cap, .pointer (some ⟨b, 0, none⟩)] w fun e w' => e = .returned (.bool (!holdK vals c)) /\ Below w.heap.size w w' := by
 have HC := Lib.hid (holds_any c a cap vals hv w hI hm)
 clear hI
 generalize holdK vals c = B at *
 go_enter Tryz.func94, Tryz.ntmps94
 go_wp2_with fail
 refine HC.out.mono ?_
 rintro e w1 ⟨rfl, hb1⟩
 have HB1 := Lib.hid hb1
 clear hb1 HC
 go_wp2
 go_ret
 exact ⟨by first | rfl | simp, HB1.out⟩
def allK (vals : Nat) (l : List (List Int)) : Bool := l.all (holdK vals)
theorem allK_eq (vals : Nat) (l : List (List Int)) : allK vals l = !(l.any fun c => !holdK vals c) := by
 unfold allK; rw [List.all_eq_not_any_not]
theorem allHold_any (l : List (List Int)) (a : Option Addr) (cap : Nat) (vals : Nat) (hv : vals < 18446744073709551616) (w : World) (hI : ClsIn w a l) (hm : l.length <= 9223372036854775807) :
  Calls Tryz.prog 37 #[.slice a l.length cap, .int .u64 (vals : Int)] w fun e w' => e = .returned (.bool (allK vals l)) /\ Below w.heap.size w w' := by
 have hb := below_new w (.cells #[.int .u64 (vals : Int)] 69)
 have HC := Lib.hid (cf_cls 94 #[.pointer (some ⟨w.heap.size, 0, none⟩)] (fun c => !holdK vals c) l a cap (w.alloc (.cells #[.int .u64 (vals : Int)] 69)) hm ent_allHold1 (hI.below hb) (fun W i a' cap' hW hi h1 h2 h3 => allHold1_any (l.getD i []) a' cap' vals hv w.heap.size W ((hW.cell (p := ⟨w.heap.size, 0, none⟩) (by simp)).trans (by simp)) h3 (by omega)))
 have HB := Lib.hid hb
 clear hb hI
 rw [allK_eq]
 generalize (l.any fun c => !holdK vals c) = B at *
 go_enter Tryz.func37, Tryz.ntmps37
 go_wp2_with fail
 refine HC.out.mono ?_
 rintro e w1 ⟨rfl, hb1⟩
 have HB1 : Hid (Below w.heap.size w w1) := HB.out.trans (hb1.mono HB.out.size)
 clear hb1 HC
 go_wp2
 go_ret
 exact ⟨by first | rfl | simp, HB1.out⟩
end
section
open Sv
theorem litK_neg (set k : Nat) (hk : k < 24) : litK set (notF1 (k : Int)) = !set.testBit k := by
 unfold litK litH litB notF1
 rw [if_neg (by omega), show (- -((k : Int) + 1)).toNat - 1 = k by omega]
 have : decide (-((k : Int) + 1) ≠ 0 /\ -(24 : Int) <= -((k : Int) + 1) /\ -((k : Int) + 1) <= 24) = true := decide_eq_true (by omega)
 rw [this, Bool.true_and]
theorem litK_pos (set k : Nat) (hk : k < 24) : litK set ((k : Int) + 1) = set.testBit k := by
 unfold litK litH litB
 rw [if_pos (by omega), show ((k : Int) + 1).toNat - 1 = k by omega]
 have : decide (((k : Int) + 1) ≠ 0 /\ -(24 : Int) <= ((k : Int) + 1) /\ ((k : Int) + 1) <= 24) = true := decide_eq_true (by omega)
 rw [this, Bool.true_and]
theorem holds_am (set : Nat) : ∀ (A : List Nat), (∀ k ∈ A, k < 24) -> holdK set (A.map fun (k : Nat) => ((k : Int) + 1)) = anyIn set A
 | [], _ => rfl
 | k :: A, h => by
  have ih := holds_am set A (fun x hx => h x (List.mem_cons_of_mem _ hx))
  unfold holdK anyIn at *
  rw [List.map_cons, List.any_cons, List.any_cons, ih, litK_pos set k (h k (by simp))]
theorem line_holds {ls : List Ln} {its : List It} (hN : newF ls = .ok its) (n : Nat) {x : Ln} (hx : x ∈ ls) (set : Nat) : (∀ c ∈ lineC its n x, holdK set c.2 = true) ↔ keepsB its x set = true := by
 have hl := (newF_ok hN).1
 have ham : ∀ name rng, ∀ k ∈ amongF its name rng, k < 24 := fun name rng k hk => by have := amongF_lt its name rng k hk; omega
 rw [keeps_is]
 unfold lineC
 by_cases h4 : x.kind = 4
 ·rw [if_pos h4, if_pos h4]
  rw [<- holds_am set _ (ham _ _)]
  simp
 ·rw [if_neg h4, if_neg h4]
  by_cases h2 : x.kind = 2
  ·obtain ⟨h1, h3, -⟩ := own_pair hN hx (Or.inl h2)
   rw [if_pos h2, if_pos h2, h1, <- holds_am set _ (ham _ _), <- litK_neg set (ownN its x) (by omega)]
   simp only [List.mem_singleton, forall_eq]
   unfold holdK
   rw [List.any_cons]
  ·rw [if_neg h2, if_neg h2]
   by_cases h3 : x.kind = 3
   ·obtain ⟨h1, h5, -⟩ := own_pair hN hx (Or.inr h3)
    rw [if_pos h3, if_pos h3, h1]
    constructor
    ·intro h
     cases ho : set.testBit (ownN its x) with
     | false => rfl
     | true =>
      simp only [Bool.not_true, Bool.false_or, Bool.not_eq_true', anyIn, List.any_eq_false]
      intro k hk hc
      have := h _ (List.mem_map.2 ⟨k, hk, rfl⟩)
      simp only [holdK, List.any_cons, List.any_nil, Bool.or_false, litK_neg set _ (show ownN its x < 24 by omega), litK_neg set k (ham _ _ k hk), ho, hc] at this
      cases this
    ·intro h c hc
     obtain ⟨k, hk, rfl⟩ := List.mem_map.1 hc
     simp only [holdK, List.any_cons, List.any_nil, Bool.or_false, litK_neg set _ (show ownN its x < 24 by omega), litK_neg set k (ham _ _ k hk)]
     cases ho : set.testBit (ownN its x) with
     | false => rfl
     | true =>
      rw [ho] at h
      simp only [Bool.not_true, Bool.false_or, Bool.not_eq_true', anyIn, List.any_eq_false] at h
      have := h k hk
      simpa using this
   ·rw [if_neg h3, if_neg h3]
    simp
theorem pairs_hold {ls : List Ln} {its : List It} (hN : newF ls = .ok its) (set : Nat) : (∀ c ∈ prF its its.length, holdK set c.2 = true) ↔ ∀ i k, i < its.length -> k < its.length -> i ≠ k -> set.testBit i = true -> set.testBit k = true -> (its.getD i default).name ≠ (its.getD k default).name := by
 have hl := (newF_ok hN).1
 have key : ∀ i k, i < k -> k < its.length -> ((∀ c ∈ pr0 its k i, holdK set c.2 = true) ↔ (set.testBit i = true -> set.testBit k = true -> (its.getD i default).name ≠ (its.getD k default).name)) := fun i k hik hk => by
  unfold pr0
  split
  ·rename_i hn
   simp only [List.mem_singleton, forall_eq, holdK, List.any_cons, List.any_nil, Bool.or_false, litK_neg set i (show i < 24 by omega), litK_neg set k (show k < 24 by omega)]
   constructor
   ·intro h b1 b2
    rw [b1, b2] at h
    cases h
   ·intro h
    cases hb1 : set.testBit i with
    | false => rfl
    | true =>
     cases hb2 : set.testBit k with
     | false => rfl
     | true => exact absurd hn (h hb1 hb2)
  ·rename_i hn
   exact ⟨fun _ _ _ => hn, fun _ c hc => by cases hc⟩
 constructor
 ·intro h i k hi hk hne b1 b2
  rcases Nat.lt_or_gt_of_ne hne with hlt | hgt
  ·exact (key i k hlt hk).1 (fun c hc => h c (List.mem_flatMap.2 ⟨k, List.mem_range.2 hk, List.mem_flatMap.2 ⟨i, List.mem_range.2 hlt, hc⟩⟩)) b1 b2
  ·exact ((key k i hgt hi).1 (fun c hc => h c (List.mem_flatMap.2 ⟨i, List.mem_range.2 hi, List.mem_flatMap.2 ⟨k, List.mem_range.2 hgt, hc⟩⟩)) b2 b1).symm
 ·intro h c hc
  obtain ⟨k, hk, hc⟩ := List.mem_flatMap.1 hc
  obtain ⟨i, hi, hc⟩ := List.mem_flatMap.1 hc
  rw [List.mem_range] at hk hi
  exact (key i k hi hk).2 (h i k (by omega) hk (by omega)) c hc
theorem fits_one (its : List It) (ls : List Ln) (set : Nat) : (fitsF its ls set).1 = true ↔ singleB its set = true /\ ∀ x ∈ ls, keepsB its x set = true := by
 unfold fitsF
 cases hs : singleB its set with
 | false => simp
 | true =>
  rw [if_neg (by simp)]
  unfold badF
  constructor
  ·intro h
   refine ⟨rfl, fun x hx => ?_⟩
   cases hb : ls.findIdx? (fun x => !keepsB its x set) with
   | none =>
    rw [List.findIdx?_eq_none_iff] at hb
    simpa using hb x hx
   | some n => rw [hb] at h; cases h
  ·rintro ⟨-, h⟩
   rw [List.findIdx?_eq_none_iff.2 (fun x hx => by rw [h x hx]; rfl)]
   rfl
theorem fits_two (its : List It) (ls : List Ln) (set : Nat) : (fitsF its ls set).1 = decide ((fitsF its ls set).2 = -1) := by
 unfold fitsF
 split
 ·rfl
 ·cases badF its ls set with
  | none => rfl
  | some n =>
   show false = decide ((n : Int) = -1)
   rw [decide_eq_false (by omega)]
theorem rules_fit {ls : List Ln} {its : List It} (hN : newF ls = .ok its) (set : Nat) (hs : set < 2 ^ its.length) : (fitsF its ls set).1 = allK set ((ofL its ls).map Prod.snd) := by
 rw [Bool.eq_iff_iff, fits_one, single_iff hN]
 unfold allK SingP
 rw [List.all_eq_true]
 have e1 : (∀ c ∈ (ofL its ls).map Prod.snd, holdK set c = true) ↔ (∀ c ∈ prF its its.length, holdK set c.2 = true) /\ (∀ c ∈ lnL its ls ls.length, holdK set c.2 = true) := by
  unfold ofL
  constructor
  ·intro h
   exact ⟨fun c hc => h _ (List.mem_map.2 ⟨c, List.mem_append.2 (Or.inl hc), rfl⟩), fun c hc => h _ (List.mem_map.2 ⟨c, List.mem_append.2 (Or.inr hc), rfl⟩)⟩
  ·rintro ⟨h1, h2⟩ c hc
   obtain ⟨d, hd, rfl⟩ := List.mem_map.1 hc
   rcases List.mem_append.1 hd with h | h
   ·exact h1 d h
   ·exact h2 d h
 rw [e1, pairs_hold hN]
 have e2 : (∀ c ∈ lnL its ls ls.length, holdK set c.2 = true) ↔ ∀ x ∈ ls, keepsB its x set = true := by
  constructor
  ·intro h x hx
   obtain ⟨n, hn, rfl⟩ := List.getElem_of_mem hx
   refine (line_holds hN n hx set).1 fun c hc => h c (List.mem_flatMap.2 ⟨n, List.mem_range.2 hn, ?_⟩)
   rw [List.getD_eq_getElem?_getD, List.getElem?_eq_getElem hn]
   exact hc
  ·intro h c hc
   obtain ⟨n, hn, hc⟩ := List.mem_flatMap.1 hc
   have hm := lget_mem ls n (List.mem_range.1 hn)
   exact (line_holds hN n hm set).2 (h _ hm) c hc
 rw [e2]
 constructor
 ·rintro ⟨⟨-, h1⟩, h2⟩; exact ⟨h1, h2⟩
 ·rintro ⟨h1, h2⟩; exact ⟨⟨hs, h1⟩, h2⟩
end
end Go.Proofs.YtpmpnbbihmgdpaaGreatDoor
