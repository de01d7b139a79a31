/- A set of texts in memory. -/
import Derived.Test.YtcjjekhecjmaeaaGreatDoorBdBelowW
import Derived.Test.YtcjjekhecjmaeaaGreatDoorBdWithout
import Derived.Shelf.LaysM
import Derived.Shelf.Strconv.AppendUint10
import Derived.Shelf.Strconv.AppendInt10
import Derived.Shelf.LaysC
import Derived.Test.YtcjjekhecjmaeaaGreatDoorProg
import Derived.Lib.ItoaNum
import Derived.Test.YtcjjekhecjmaeaaGreatDoorArBase
import Derived.Test.YtcjjekhecjmaeaaGreatDoorBdAsk
import Derived.StringKeys
set_option maxHeartbeats 2000000
set_option maxRecDepth 100000
namespace Go.Proofs.YtcjjekhecjmaeaaGreatDoor
open Go.RowKit Go.Maps Num
section
variable {B s b : Nat} {O : Nat -> Prop} {vars : Nat} {room : Int} {ns : List Nd}
theorem count_any (w : World) (hS : SpaceAt B w s b O vars room ns) (hg : Good vars ns) (hl : ns.length <= 90000) (hv : vars <= 24) (h : Int) (hh : hasB ns h = true) :
  Calls Tryz.prog 9 #[.pointer (some ⟨s, 0, none⟩), .int .i64 h] w fun e w' => ∃ v, e = .returned (.tuple #[v, .nilIface]) /\ NatAt w' v (waysN vars ns h 0) /\ Below w.heap.size w w' := by
 have hi := has_i64 hh (by omega)
 have hb1 := below_new w (.cells #[.slice none 0 0] 30)
 have s1 : (w.alloc (.cells #[.slice none 0 0] 30)).heap.size = w.heap.size + 1 := by simp
 have HP := present_any (cp := 1) ((hS.new hb1).new (below_new (w.alloc (.cells #[.slice none 0 0] 30)) (.cells #[.int .i64 h] 3))) (by omega) (w.alloc (.cells #[.slice none 0 0] 30)).heap.size [h] (ints1 (w.alloc (.cells #[.slice none 0 0] 30)) h hi) (by simp) (fun y hy => by rw [List.mem_singleton] at hy; subst hy; exact hh)
 rw [show [h].length = 1 from rfl, s1] at HP
 have HPR := Lib.hid HP
 have hb2 := hb1.alloc hb1.size (.cells #[.int .i64 h] 3)
 have s2 : ((w.alloc (.cells #[.slice none 0 0] 30)).alloc (.cells #[.int .i64 h] 3)).heap.size = w.heap.size + 1 + 1 := by rw [World.size_alloc, s1]
 have hb3 := hb2.alloc hb2.size (.map #[] 0)
 have hown := World.ownsMap_made ((w.alloc (.cells #[.slice none 0 0] 30)).alloc (.cells #[.int .i64 h] 3)) Tryz.prog 3 natR
 rw [s2] at hown
 have hD : DoneN (((w.alloc (.cells #[.slice none 0 0] 30)).alloc (.cells #[.int .i64 h] 3)).alloc (.map #[] 0)) (w.heap.size + 1 + 1) vars ns [] := ⟨⟨_, hown, Rep.empty⟩, (fun p hp => by cases hp), (fun p hp => by cases hp)⟩
 have hslt := hS.slt
 have HWA := ways_any (B := B) (s := s) (b := b) (dk := w.heap.size + 1 + 1) (O := O) (vars := vars) (room := room) (ns := ns) hg hl hv (fun ho => by have := (hS.own _ ho).2; omega) (by omega) h 0 [] _ (hS.new hb3) hD hh (by have := (topOf_le hg.ranked h).1; omega) (Nat.zero_le _)
 have HWY : Hid (Calls Tryz.prog 35 #[.pointer (some ⟨s, 0, none⟩), .int .i64 h, .int .i64 0, .map (some (w.heap.size + 1 + 1))] (((w.alloc (.cells #[.slice none 0 0] 30)).alloc (.cells #[.int .i64 h] 3)).alloc (.map #[] 0)) (CntOut (w.heap.size + 1 + 1) vars ns (waysN vars ns h 0) (((w.alloc (.cells #[.slice none 0 0] 30)).alloc (.cells #[.int .i64 h] 3)).alloc (.map #[] 0)))) := HWA
 have HBX : Hid (BoxAt (((w.alloc (.cells #[.slice none 0 0] 30)).alloc (.cells #[.int .i64 h] 3)).alloc (.map #[] 0)) w.heap.size) := ((boxAt_new w).new (below_new _ _)).new (below_new _ _)
 have HB3 := Lib.hid hb3
 have hmm := @run_makeMap Tryz.prog
 clear HP HWA hS hg hh hb1 hb2 hb3 hown hD
 generalize waysN vars ns h 0 = m at *
 go_enter Tryz.func9, Tryz.ntmps9
 go_wp2_with fail
 refine HPR.out.mono ?_
 rintro e w1 ⟨rfl, rfl⟩
 clear HPR
 go_wp2_with fail
 refine HWY.out.mono ?_
 rintro e w4 ⟨v4, L4, rfl, hn, hD4, hk⟩
 generalize (((w.alloc (.cells #[.slice none 0 0] 30)).alloc (.cells #[.int .i64 h] 3)).alloc (.map #[] 0)) = W3 at *
 obtain ⟨x, rfl, hx⟩ := hn
 obtain ⟨xa, xn, xc⟩ := x
 have hn : NatAt w4 (NV.val ⟨xa, xn, xc⟩) m := ⟨_, rfl, hx⟩
 have hbx := HBX.out.kept hk (show w.heap.size ≠ w.heap.size + 1 + 1 by omega)
 have bc := hbx.c
 have bf := hbx.f
 have hcs : (w4.setCell ⟨w.heap.size, 0, none⟩ (.slice xa xn xc)).cell? ⟨w.heap.size, 0, none⟩ = some (.slice xa xn xc) := World.cell?_setCell_same _ _ _ bc
 have hb4 : Below w.heap.size w (w4.setCell ⟨w.heap.size, 0, none⟩ (.slice xa xn xc)) := (HB3.out.trans (hk.below HB3.out.size (fun j e => by omega))).setCell (Nat.le_refl _) _
 have HFIN : Hid (∃ v, Ending.returned (.tuple #[.agg #[.slice xa xn xc], .nilIface]) = .returned (.tuple #[v, .nilIface]) /\ NatAt (w4.setCell ⟨w.heap.size, 0, none⟩ (.slice xa xn xc)) v m /\ Below w.heap.size w (w4.setCell ⟨w.heap.size, 0, none⟩ (.slice xa xn xc))) := ⟨_, rfl, hn.box hbx.no _, hb4⟩
 clear hn hx hD4 hk hbx hb4 HWY HBX HB3
 unfold NV.val
 go_wp2
 refine bodyPost_ret (v := .tuple #[.agg #[.slice xa xn xc], .nilIface]) (by simp [results, Tryz.results9, go_sem, hcs]) rfl HFIN.out
end
end Go.Proofs.YtcjjekhecjmaeaaGreatDoor
namespace Go.Proofs
open Go.Shelf
def Tryz.laysM288_ren : Go.Shelf.Ren := ⟨fun | 288 => 78 | 283 => 124 | 284 => 125 | 285 => 126 | 286 => 127 | 129 => 123 | 317 => 149 | 318 => 150 | 319 => 151 | 320 => 152 | 337 => 164 | 338 => 165 | n => n, fun | 37 => 49 | 53 => 90 | 3 => 3 | 4 => 4 | 9 => 9 | 171 => 191 | 0 => 0 | 173 => 193 | 212 => 225 | 51 => 189 | 5 => 5 | 20 => 20 | 213 => 226 | 46 => 65 | 232 => 243 | 233 => 244 | n => n, fun | 17 => 1 | 18 => 3 | 19 => 4 | n => n⟩
theorem Tryz.laysM288 : Go.Proofs.LaysM.n288 Tryz.prog Tryz.laysM288_ren := {
 mixed := by kernel_rfl
 f129 := Tryz.func123.trans (congrArg some (by kernel_rfl))
 f283 := Tryz.func124.trans (congrArg some (by kernel_rfl))
 f284 := Tryz.func125.trans (congrArg some (by kernel_rfl))
 f285 := Tryz.func126.trans (congrArg some (by kernel_rfl))
 f286 := Tryz.func127.trans (congrArg some (by kernel_rfl))
 f288 := Tryz.func78.trans (congrArg some (by kernel_rfl))
 f317 := Tryz.func149.trans (congrArg some (by kernel_rfl))
 f318 := Tryz.func150.trans (congrArg some (by kernel_rfl))
 f319 := Tryz.func151.trans (congrArg some (by kernel_rfl))
 f320 := Tryz.func152.trans (congrArg some (by kernel_rfl))
 f337 := Tryz.func164.trans (congrArg some (by kernel_rfl))
 f338 := Tryz.func165.trans (congrArg some (by kernel_rfl))
 t0 := Tryz.underlying0
 a0 := Tryz.isAgg0
 z0 := Tryz.sizeOf0
 v0 := Tryz.zeroValue0
 t3 := Tryz.underlying3
 a3 := Tryz.isAgg3
 z3 := Tryz.sizeOf3
 v3 := Tryz.zeroValue3
 t4 := Tryz.underlying4
 a4 := Tryz.isAgg4
 z4 := Tryz.sizeOf4
 v4 := Tryz.zeroValue4
 t5 := Tryz.underlying5
 a5 := Tryz.isAgg5
 z5 := Tryz.sizeOf5
 v5 := Tryz.zeroValue5
 t9 := Tryz.underlying9
 a9 := Tryz.isAgg9
 z9 := Tryz.sizeOf9
 v9 := Tryz.zeroValue9
 t20 := Tryz.underlying20
 a20 := Tryz.isAgg20
 z20 := Tryz.sizeOf20
 v20 := Tryz.zeroValue20
 t37 := Tryz.underlying49
 a37 := Tryz.isAgg49
 z37 := Tryz.sizeOf49
 v37 := Tryz.zeroValue49
 t46 := Tryz.underlying65
 a46 := Tryz.isAgg65
 z46 := Tryz.sizeOf65
 v46 := Tryz.zeroValue65
 t51 := Tryz.underlying189
 a51 := Tryz.isAgg189
 z51 := Tryz.sizeOf189
 v51 := Tryz.zeroValue189
 t53 := Tryz.underlying90
 a53 := Tryz.isAgg90
 z53 := Tryz.sizeOf90
 v53 := Tryz.zeroValue90
 t171 := Tryz.underlying191
 a171 := Tryz.isAgg191
 z171 := Tryz.sizeOf191
 v171 := Tryz.zeroValue191
 t173 := Tryz.underlying193
 a173 := Tryz.isAgg193
 z173 := Tryz.sizeOf193
 v173 := Tryz.zeroValue193
 t212 := Tryz.underlying225
 a212 := Tryz.isAgg225
 z212 := Tryz.sizeOf225
 v212 := Tryz.zeroValue225
 t213 := Tryz.underlying226
 a213 := Tryz.isAgg226
 z213 := Tryz.sizeOf226
 t232 := Tryz.underlying243
 a232 := Tryz.isAgg243
 z232 := Tryz.sizeOf243
 v232 := Tryz.zeroValue243
 t233 := Tryz.underlying244
 a233 := Tryz.isAgg244
 z233 := Tryz.sizeOf244
 v233 := Tryz.zeroValue244
 g17 := by kernel_rfl
 g18 := by kernel_rfl
 g19 := by kernel_rfl
 i0 := by kernel_rfl
 i3 := by kernel_rfl
 i4 := by kernel_rfl
 i5 := by kernel_rfl
 i9 := by kernel_rfl
 i20 := by kernel_rfl
 i37 := by kernel_rfl
 i46 := by kernel_rfl
 i51 := by kernel_rfl
 i53 := by kernel_rfl
 i171 := by kernel_rfl
 i173 := by kernel_rfl
 i212 := by kernel_rfl
 i232 := by kernel_rfl
 i233 := by kernel_rfl
 m17 := by kernel_rfl
 m18 := by kernel_rfl
 m19 := by kernel_rfl }
open Go.RowKit Go.Sort Go.Lib in
theorem Tryz.internal_strconv_AppendUint_10 (B n u : Nat) (hu64 : u < 18446744073709551616) (sv : Value) (xs : List Value) (w : World) (hown : w.ownsRow B 5 1 sv n xs) (hBw : B <= w.heap.size) (hlim : n + 20 <= 140737488355328) (htab : Lib.TabIs Tryz.prog w "internal/strconv.uint64pow10" .u64 Lib.pow10Tab) :
  Calls Tryz.prog 78 #[sv, .int .u64 u, .int .i64 10] w fun e w' => ∃ v', e = .returned v' /\ w'.ownsRow B 5 1 v' (n + (Lib.decDigits u).length) (xs ++ Lib.byteCells (Lib.decDigits u)) /\ Below B w w' /\ Lib.OthersKept 5 none w w' := Any.internal_strconv_AppendUint_10 Tryz.laysM288 B n u hu64 sv xs w hown hBw hlim htab
end Go.Proofs
namespace Go.Proofs.YtcjjekhecjmaeaaGreatDoor
open Go.RowKit Go.Maps Num Go.Sort
theorem NatAt.small {w : World} {v : Value} {m : Nat} (h : NatAt w v m) (hm : m <= 100000000) :
  (m = 0 /\ ∃ a c, v = .agg #[.slice a 0 c]) \/ (m ≠ 0 /\ ∃ b off c, v = .agg #[.slice (some ⟨b, off, none⟩) 1 c] /\ b < w.heap.size /\ w.cell? ⟨b, off, none⟩ = some (.int .u64 (m : Int))) := by
 obtain ⟨s, ds, rfl, ⟨a, cap, rfl, hc, hi⟩, hN, hv, hl⟩ := h.open hm
 match ds, hl with
 | [], _ => exact .inl ⟨by rw [<- hv, val_nil], a, cap, rfl⟩
 | [d], _ =>
  obtain ⟨b, off, rfl, hb, hcell⟩ := hi 0 (by simp)
  have hd : val 1000000000 [d] = d := by unfold val; simp [S, dig]
  have h0 := hN.last (by simp)
  have e : d = m := by rw [<- hd]; exact hv
  subst e
  exact .inr ⟨h0, b, off, cap, rfl, hb, hcell⟩
theorem zero_c {w : World} {v : Value} {m : Nat} (h : NatAt w v m) (hm : m <= 100000000) : Calls Tryz.prog 40 #[v] w fun e w' => e = .returned (.bool (decide (m = 0))) /\ Below w.heap.size w w' := by
 rcases h.small hm with ⟨h0, a, c, rfl⟩ | ⟨h0, b, off, c, rfl, -, -⟩
 ·rw [decide_eq_true h0]
  clear h hm h0
  have HB : Hid (Below w.heap.size w (w.alloc (.cells #[.slice a 0 c] 30))) := below_new w _
  go_enter Tryz.func40, Tryz.ntmps40
  go_wp2
  go_ret
  exact ⟨by first | rfl | simp, HB.out⟩
 ·rw [decide_eq_false h0]
  clear h hm h0
  have HB : Hid (Below w.heap.size w (w.alloc (.cells #[.slice (some ⟨b, off, none⟩) 1 c] 30))) := below_new w _
  go_enter Tryz.func40, Tryz.ntmps40
  go_wp2
  go_ret
  exact ⟨by first | rfl | simp, HB.out⟩
theorem append_c (B u : Nat) (hu64 : u < 18446744073709551616) (w : World) (hBw : B <= w.heap.size) (htab : Lib.TabIs Tryz.prog w "internal/strconv.uint64pow10" .u64 Lib.pow10Tab) :
  Calls Tryz.prog 41 #[.slice none 0 0, .int .u64 (u : Int), .int .i64 10] w fun e w' => ∃ v', e = .returned v' /\ w'.ownsRow B 5 1 v' (Lib.decDigits u).length (Lib.byteCells (Lib.decDigits u)) /\ Below B w w' := by
 have H0 := Tryz.internal_strconv_AppendUint_10 B 0 u hu64 (.slice none 0 0) [] w (World.ownsRow_nil _ _ _ _) hBw (by omega) htab
 have H := Lib.hid H0
 clear H0 htab
 go_enter Tryz.func41, Tryz.ntmps41
 go_wp2_with fail
 refine H.out.mono ?_
 rintro e w1 ⟨v', rfl, h1, h2, -⟩
 have HF : Hid (w1.ownsRow B 5 1 v' (Lib.decDigits u).length (Lib.byteCells (Lib.decDigits u)) /\ Below B w w1) := by
  have : w1.ownsRow B 5 1 v' (Lib.decDigits u).length (Lib.byteCells (Lib.decDigits u)) := by simpa using h1
  exact ⟨this, h2⟩
 clear h1 h2
 go_wp2
 go_ret
 exact ⟨v', rfl, HF.out⟩
theorem conv_owned {w : World} {base : Nat} {v : Value} {l : List UInt8} (h : w.ownsRow base 5 1 v l.length (Lib.byteCells l)) (hl : l ≠ []) :
  (convert 49 9 v).run Tryz.prog w = .ok (.string ⟨l.toArray⟩) w := by
 rcases id h.2 with ⟨h1, h2⟩ | ⟨g, cap, cur, h1, hb, hg, h2, _⟩
 ·exact absurd (List.length_eq_zero_iff.1 h2) hl
 ·subst h1
  refine run_convert_bytes_back (P := Tryz.prog) w 49 9 5 ⟨g, 0, none⟩ cap l Tryz.underlying49 Tryz.underlying5 Tryz.underlying9 (fun j hj => ?_)
  rw [Lib.add_plain, Nat.zero_add, h.cellAt j (by omega)]
  simp [Lib.byteCells, hj]
theorem decD_zero : Lib.decDigits 0 = [48] := by kernel_rfl
theorem text_c {w : World} {v : Value} {m : Nat} (h : NatAt w v m) (hm : m <= 100000000) (htab : Lib.TabIs Tryz.prog w "internal/strconv.uint64pow10" .u64 Lib.pow10Tab) :
  Calls Tryz.prog 12 #[v] w fun e w' => e = .returned (.string ⟨(Lib.decDigits m).toArray⟩) /\ Below w.heap.size w w' := by
 rcases h.small hm with ⟨h0, a, c, rfl⟩ | ⟨h0, b, off, c, rfl, hb, hcell⟩
 ·have hb0 := below_new w (.cells #[.slice a 0 c] 30)
  have hz := zero_c (h.new hb0) hm
  rw [decide_eq_true h0] at hz
  have HZ := Lib.hid hz
  have HB := Lib.hid hb0
  subst h0
  rw [decD_zero]
  clear h hm hz hb0 htab
  go_enter Tryz.func12, Tryz.ntmps12
  go_wp2_with fail
  refine HZ.out.mono ?_
  rintro e w1 ⟨rfl, hb1⟩
  have HB1 : Hid (Below w.heap.size w w1) := HB.out.trans (hb1.mono HB.out.size)
  clear hb1 HZ HB
  go_wp2
  go_ret
  exact ⟨rfl, HB1.out⟩
 ·have hb0 := below_new w (.cells #[.slice (some ⟨b, off, none⟩) 1 c] 30)
  have hz := zero_c (h.new hb0) hm
  rw [decide_eq_false h0] at hz
  have HZ := Lib.hid hz
  have HB := Lib.hid hb0
  have c0 : (w.alloc (.cells #[.slice (some ⟨b, off, none⟩) 1 c] 30)).cell? ⟨w.heap.size, 0, none⟩ = some (.slice (some ⟨b, off, none⟩) 1 c) := by simp
  have c1 := (hb0.cell (p := ⟨b, off, none⟩) hb).trans hcell
  have hsz : (w.alloc (.cells #[.slice (some ⟨b, off, none⟩) 1 c] 30)).heap.size = w.heap.size + 1 := World.size_alloc _ _
  have hlt : b < (w.alloc (.cells #[.slice (some ⟨b, off, none⟩) 1 c] 30)).heap.size := by omega
  have HT : Hid (∀ W, Below w.heap.size w W -> Lib.TabIs Tryz.prog W "internal/strconv.uint64pow10" .u64 Lib.pow10Tab) := fun W hW => Lib.tabBelow_of_tabIs htab W hW
  have hne : Lib.decDigits m ≠ [] := fun h => by
   have h1 := Lib.decDigits_length m
   have h2 := Lib.nDigits_pos m
   rw [h, List.length_nil] at h1
   omega
  have HNE := Lib.hid hne
  clear h hz hb0 htab hcell hne
  go_enter Tryz.func12, Tryz.ntmps12
  go_upto_region 1 with fail
  generalize w.alloc (.cells #[.slice (some ⟨b, off, none⟩) 1 c] 30) = W0 at *
  go_wp2_with fail
  refine HZ.out.mono ?_
  rintro e w1 ⟨rfl, hb1⟩
  have d0 : w1.cell? ⟨w.heap.size, 0, none⟩ = some (.slice (some ⟨b, off, none⟩) 1 c) := (hb1.cell (p := ⟨w.heap.size, 0, none⟩) (by show w.heap.size < _; omega)).trans c0
  have d1 : w1.cell? ⟨b, off, none⟩ = some (.int .u64 (m : Int)) := (hb1.cell (p := ⟨b, off, none⟩) hlt).trans c1
  have hB1 : Below w.heap.size w w1 := HB.out.trans (hb1.mono HB.out.size)
  have HAP := Lib.hid (append_c w1.heap.size m (by omega) w1 (Nat.le_refl _) (HT.out w1 hB1))
  have HB1 := Lib.hid hB1
  clear hb1 HZ HB c0 c1 HT hB1
  go_wp2_with fail
  refine HAP.out.mono ?_
  rintro e w2 ⟨v2, rfl, hrow, hb2⟩
  have hcv := conv_owned hrow HNE.out
  have HB2 : Hid (Below w.heap.size w w2) := HB1.out.trans (hb2.mono HB1.out.size)
  clear hb2 HAP HB1 d0 d1 hrow HNE
  go_wp2_with fail
  go_loopw [4, 20] (fun o i wr => o = v2 /\ i = .int .i64 0 /\ wr = w2) (fun _ _ _ => 0)
  case atStart => exact ⟨rfl, rfl, rfl⟩
  case round =>
   obtain ⟨rfl, rfl, rfl⟩ := hrel
   go_wp2
   go_ret
   exact ⟨rfl, HB2.out⟩
end Go.Proofs.YtcjjekhecjmaeaaGreatDoor
namespace Go.Proofs.YtcjjekhecjmaeaaGreatDoor
open Go.RowKit Go.Maps
instance lawBA : LawfulBEq ByteArray where
 eq_of_beq {a b} h := ByteArray.ext (eq_of_beq (show (a.data == b.data) = true from h))
 rfl {a} := beq_self_eq_true a.data
theorem lawStr : Keyed Tryz.prog 9 := string_keyed Tryz.underlying9
theorem keyStr {s : ByteArray} (h : s.size <= 100000) : keyOf Tryz.prog 9 (.string s) = some (.string s.data.toList) := WideMaps.keyOf_string_mk Tryz.underlying9 (by unfold maxLen; omega)
def sKey (s : ByteArray) : Lit := .string s.data.toList
theorem sKey_inj {a b : ByteArray} (h : sKey a = sKey b) : a = b := by
 unfold sKey at h
 injection h with h
 exact ByteArray.ext (Array.toList_inj.1 h)
def boolElem : Value -> Option (DataW Unit × List MemPlace)
 | .bool b => some (.lit (.bool b), [])
 | _ => none
theorem boolElem_mk (b : Bool) : boolElem (.bool b) = some (.lit (.bool b), []) := rfl
theorem boolElem_inv {v : Value} {b : Bool} {ps : List MemPlace} (h : boolElem v = some (.lit (.bool b), ps)) : v = .bool b := by
 unfold boolElem at h
 split at h
 ·simp at h; rw [h.1]
 ·cases h
theorem zeroBool (w : World) : (zeroValue 4).run Tryz.prog w = .ok (.bool false) w := by kernel_rfl
def TextOk (s : ByteArray) : Prop := s.size <= 100000
def unitS (l : List ByteArray) : List (ByteArray × Unit) := l.map fun s => (s, ())
theorem unitS_fst (l : List ByteArray) : (unitS l).map Prod.fst = l := by unfold unitS; rw [List.map_map]; simp [Function.comp_def]
def SRep (D : DataW Unit) (l : List ByteArray) : Prop := Rep TextOk sKey (fun _ : Unit => .lit (.bool true)) D (unitS l)
def StrSet (w : World) (bm : Nat) (l : List ByteArray) : Prop := ∃ D, w.ownsMap Tryz.prog 9 boolElem bm l.length D /\ SRep D l
theorem StrSet.lt {w : World} {bm : Nat} {l : List ByteArray} (h : StrSet w bm l) : bm < w.heap.size := by obtain ⟨D, hD, _⟩ := h; exact hD.lt
theorem StrSet.made (w : World) : StrSet (w.alloc (.map #[] 0)) w.heap.size [] := ⟨.map [], World.ownsMap_made w _ _ _, Rep.empty⟩
theorem StrSet.block {w w' : World} {bm : Nat} {l : List ByteArray} (h : StrSet w bm l) (hb : w'.heap[bm]? = w.heap[bm]?) : StrSet w' bm l := by
 obtain ⟨D, ⟨es, clock, h1, h2⟩, hR⟩ := h
 exact ⟨D, ⟨es, clock, hb.trans h1, h2⟩, hR⟩
theorem StrSet.look {w : World} {bm : Nat} {l : List ByteArray} (h : StrSet w bm l) {x : ByteArray} (hx : TextOk x) :
  (Instr.lookup 95 (.map (some bm)) (.string x) false).run Tryz.prog w = .ok (.bool (decide (x ∈ l))) w := by
 obtain ⟨D, hD, hR⟩ := h
 obtain ⟨v, ps, hrun, hv⟩ := hD.lookup lawStr Tryz.underlying95 (zeroBool w) (boolElem_mk false) (keyStr hx)
 by_cases hm : x ∈ l
 ·rw [show D.atKey (.string x.data.toList) (.lit (.bool false)) = .lit (.bool true) from hR.at' (x, ()) (by unfold unitS; exact List.mem_map.2 ⟨x, hm, rfl⟩) _] at hv
  rw [boolElem_inv hv] at hrun
  rw [decide_eq_true hm]
  exact hrun
 ·have hn : Maps.has D (sKey x) = false := Rep.not hR hx (by rw [unitS_fst]; exact hm)
  rw [atKey_of_not_has (show Maps.has D (.string x.data.toList) = false from hn)] at hv
  rw [boolElem_inv hv] at hrun
  rw [decide_eq_false hm]
  exact hrun
theorem StrSet.put {w : World} {bm : Nat} {l : List ByteArray} (h : StrSet w bm l) (hl : l.length < 1000000) {x : ByteArray} (hx : TextOk x) (hn : x ∉ l) :
  ∃ w', (Instr.mapUpdate 95 (.map (some bm)) (.string x) (.bool true)).run Tryz.prog w = .ok () w' /\ StrSet w' bm (l ++ [x]) /\ w.grownBy w' (some bm) := by
 obtain ⟨D, hD, hR⟩ := h
 obtain ⟨w', hrun, g1, k1⟩ := hD.update lawStr Tryz.underlying95 (by unfold maxLen; omega) (keyStr hx) (boolElem_mk true)
 have hR1 : SRep (D.put (sKey x) (.lit (.bool true))) (l ++ [x]) := by
  have := Rep.put hR (fun a b _ _ e => sKey_inj e) (fun _ => trivial) hx (by rw [unitS_fst]; exact hn) ()
  show Rep _ _ _ _ (unitS (l ++ [x]))
  unfold unitS at *
  rw [List.map_append]
  exact this
 have hsz : (l ++ [x]).length = Maps.size (D.put (sKey x) (.lit (.bool true))) := by
  rw [hR1.size]; simp [unitS]
 refine ⟨w', hrun, ⟨_, ?_, hR1⟩, k1⟩
 rw [hsz]
 exact ownsMap_norm g1
end Go.Proofs.YtcjjekhecjmaeaaGreatDoor
