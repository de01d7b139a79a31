/- strings.CutPrefix, CutSuffix. -/
import Derived.Test.YtcjjekhecjmaeaaGreatDoorImThree
import Derived.Test.YtcjjekhecjmaeaaGreatDoorImCutP
import Derived.Lib.Strings
import Derived.Laws.Strings3
import Derived.Lib.IndexBytes
set_option maxHeartbeats 1000000
set_option maxRecDepth 100000
namespace Go.Proofs.YtcjjekhecjmaeaaGreatDoor
open Go.RowKit Go.Lib
def cutPreV (l p : List UInt8) : Value := if l.take p.length = p then .tuple #[strV (l.drop p.length), .bool true] else .tuple #[strV l, .bool false]
def cutSufV (l p : List UInt8) : Value := if p.length <= l.length /\ l.drop (l.length - p.length) = p then .tuple #[strV (l.take (l.length - p.length)), .bool true] else .tuple #[strV l, .bool false]
theorem str_size (l : List UInt8) : (⟨l.toArray⟩ : ByteArray).size = l.length := by show l.toArray.size = _; simp
theorem ba_list {s t : ByteArray} (h : s.data.toList = t.data.toList) : s = t := ByteArray.ext (Array.toList_inj.1 h)
theorem ext_l (l : List UInt8) (i j : Nat) : ((⟨l.toArray⟩ : ByteArray).extract i j).data.toList = (l.take j).drop i := by
 rw [ByteArray.data_extract]; simp
 rw [List.drop_take]
theorem hasPre_any (l p : List UInt8) (w : World) : Calls Tryz.prog 159 #[strV l, strV p] w fun e w' => e = .returned (.bool (decide (l.take p.length = p))) /\ w = w' := by
 have h1 := str_size l
 have h2 := str_size p
 have h3 : ((⟨l.toArray⟩ : ByteArray).extract 0 p.length).toList = l.take p.length := by rw [ByteArray.toList_eq, ext_l]; simp
 have h4 : (⟨p.toArray⟩ : ByteArray).toList = p := by rw [ByteArray.toList_eq]
 unfold strV
 generalize (⟨l.toArray⟩ : ByteArray) = s at *
 generalize (⟨p.toArray⟩ : ByteArray) = t at *
 go_enter Tryz.func159, Tryz.ntmps159
 go_wp2
 ·rename_i h
  go_ret
  refine ⟨?_, rfl⟩
  show Ending.returned (Value.bool (l.take p.length == p)) = _
  congr 2
  by_cases e : l.take p.length = p
  ·rw [e]; simp
  ·simp [e]
 ·rename_i h
  go_ret
  refine ⟨?_, rfl⟩
  show Ending.returned (Value.bool false) = _
  have : ¬ l.take p.length = p := fun e => by
   have := congrArg List.length e
   rw [List.length_take] at this
   omega
  simp [this]
theorem hasSuf_any (l p : List UInt8) (hl : l.length <= 1000000) (w : World) : Calls Tryz.prog 155 #[strV l, strV p] w fun e w' => e = .returned (.bool (decide (p.length <= l.length /\ l.drop (l.length - p.length) = p))) /\ w = w' := by
 have h1 := str_size l
 have h2 := str_size p
 have h3 : ((⟨l.toArray⟩ : ByteArray).extract (l.length - p.length) l.length).toList = l.drop (l.length - p.length) := by rw [ByteArray.toList_eq, ext_l, List.take_length]
 have h4 : (⟨p.toArray⟩ : ByteArray).toList = p := by rw [ByteArray.toList_eq]
 unfold strV
 generalize (⟨l.toArray⟩ : ByteArray) = s at *
 generalize (⟨p.toArray⟩ : ByteArray) = t at *
 have hs : s.size <= 9223372036854775807 := by omega
 have hlo : t.size <= s.size -> ((s.size : Int) - (t.size : Int) + 9223372036854775808) % 18446744073709551616 - 9223372036854775808 = ((s.size - t.size : Nat) : Int) := fun _ => by omega
 go_enter Tryz.func155, Tryz.ntmps155
 go_wp2
 ·have h : p.length <= l.length := by first | assumption | omega
  go_ret
  refine ⟨?_, rfl⟩
  show Ending.returned (Value.bool (l.drop (l.length - p.length) == p)) = _
  congr 2
  by_cases e : l.drop (l.length - p.length) = p
  ·rw [e]; simp; omega
  ·simp [e]
 ·have h : ¬ p.length <= l.length := by first | assumption | omega
  go_ret
  refine ⟨?_, rfl⟩
  show Ending.returned (Value.bool false) = _
  have : ¬ (p.length <= l.length) := by omega
  simp [this]
theorem lcutPre_any (l p : List UInt8) (w : World) : Calls Tryz.prog 133 #[strV l, strV p] w fun e w' => e = .returned (cutPreV l p) /\ w = w' := by
 have HP := Lib.hid (hasPre_any l p w)
 have h1 := str_size l
 have h2 := str_size p
 unfold cutPreV
 by_cases e : l.take p.length = p
 ·rw [if_pos e]
  rw [decide_eq_true e] at HP
  have h0 : p.length <= l.length := by have := congrArg List.length e; rw [List.length_take] at this; omega
  have h3 : Hid ((⟨l.toArray⟩ : ByteArray).extract p.length l.length = ⟨(l.drop p.length).toArray⟩) := ba_list (by rw [ext_l, List.take_length])
  unfold strV at *
  clear e
  generalize (⟨(l.drop p.length).toArray⟩ : ByteArray) = r at *
  generalize (⟨l.toArray⟩ : ByteArray) = s at *
  generalize (⟨p.toArray⟩ : ByteArray) = t at *
  have h5 : t.size <= s.size := by omega
  go_enter Tryz.func133, Tryz.ntmps133
  go_wp2_with fail
  refine HP.out.mono ?_
  rintro e w1 ⟨rfl, rfl⟩
  go_wp2
  go_ret2
  refine ⟨?_, rfl⟩
  show Ending.returned (.tuple #[.string (s.extract p.length l.length), .bool true]) = _
  rw [h3.out]
 ·rw [if_neg e]
  rw [decide_eq_false e] at HP
  clear e
  generalize strV l = s at *
  generalize strV p = t at *
  go_enter Tryz.func133, Tryz.ntmps133
  go_wp2_with fail
  refine HP.out.mono ?_
  rintro e w1 ⟨rfl, rfl⟩
  go_wp2
  go_ret2
  exact ⟨rfl, rfl⟩
theorem lcutSuf_any (l p : List UInt8) (hl : l.length <= 1000000) (w : World) : Calls Tryz.prog 131 #[strV l, strV p] w fun e w' => e = .returned (cutSufV l p) /\ w = w' := by
 have HP := Lib.hid (hasSuf_any l p hl w)
 have h1 := str_size l
 have h2 := str_size p
 unfold cutSufV
 by_cases e : p.length <= l.length /\ l.drop (l.length - p.length) = p
 ·rw [if_pos e]
  rw [decide_eq_true e] at HP
  have h0 := e.1
  have h3 : Hid ((⟨l.toArray⟩ : ByteArray).extract 0 (l.length - p.length) = ⟨(l.take (l.length - p.length)).toArray⟩) := ba_list (by rw [ext_l]; simp)
  unfold strV at *
  clear e
  generalize (⟨(l.take (l.length - p.length)).toArray⟩ : ByteArray) = r at *
  generalize (⟨l.toArray⟩ : ByteArray) = s at *
  generalize (⟨p.toArray⟩ : ByteArray) = t at *
  have h5 : t.size <= s.size := by omega
  have hlo : ((s.size : Int) - (t.size : Int) + 9223372036854775808) % 18446744073709551616 - 9223372036854775808 = ((s.size - t.size : Nat) : Int) := by omega
  go_enter Tryz.func131, Tryz.ntmps131
  go_wp2_with fail
  refine HP.out.mono ?_
  rintro e w1 ⟨rfl, rfl⟩
  go_wp2
  go_ret2
  refine ⟨?_, rfl⟩
  show Ending.returned (.tuple #[.string (s.extract 0 (l.length - p.length)), .bool true]) = _
  rw [h3.out]
 ·rw [if_neg e]
  rw [decide_eq_false e] at HP
  clear e
  generalize strV l = s at *
  generalize strV p = t at *
  go_enter Tryz.func131, Tryz.ntmps131
  go_wp2_with fail
  refine HP.out.mono ?_
  rintro e w1 ⟨rfl, rfl⟩
  go_wp2
  go_ret2
  exact ⟨rfl, rfl⟩
theorem two_v {c : Prop} [Decidable c] {x y : Value} : ∃ a q, (if c then Value.tuple #[x, .bool true] else .tuple #[y, .bool false]) = .tuple #[a, .bool q] := by
 by_cases h : c
 ·exact ⟨x, true, by rw [if_pos h]⟩
 ·exact ⟨y, false, by rw [if_neg h]⟩
theorem cutPre_any (l p : List UInt8) (w : World) : Calls Tryz.prog 87 #[strV l, strV p] w fun e w' => e = .returned (cutPreV l p) /\ w = w' := by
 have HP := Lib.hid (lcutPre_any l p w)
 obtain ⟨a, q, e⟩ : ∃ a q, cutPreV l p = .tuple #[a, .bool q] := two_v
 rw [e] at HP ⊢
 clear e
 generalize strV l = s at *
 generalize strV p = t at *
 go_enter Tryz.func87, Tryz.ntmps87
 go_wp2_with fail
 refine HP.out.mono ?_
 rintro e w1 ⟨rfl, rfl⟩
 go_wp2
 go_ret2
 exact ⟨rfl, rfl⟩
theorem cutSuf_any (l p : List UInt8) (hl : l.length <= 1000000) (w : World) : Calls Tryz.prog 85 #[strV l, strV p] w fun e w' => e = .returned (cutSufV l p) /\ w = w' := by
 have HP := Lib.hid (lcutSuf_any l p hl w)
 obtain ⟨a, q, e⟩ : ∃ a q, cutSufV l p = .tuple #[a, .bool q] := two_v
 rw [e] at HP ⊢
 clear e
 generalize strV l = s at *
 generalize strV p = t at *
 go_enter Tryz.func85, Tryz.ntmps85
 go_wp2_with fail
 refine HP.out.mono ?_
 rintro e w1 ⟨rfl, rfl⟩
 go_wp2
 go_ret2
 exact ⟨rfl, rfl⟩
end Go.Proofs.YtcjjekhecjmaeaaGreatDoor
