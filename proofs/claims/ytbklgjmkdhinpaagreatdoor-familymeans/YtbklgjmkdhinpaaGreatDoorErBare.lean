/- plain.Place and the laws' 'bare', by their contracts: of nil and of a plain Errno. -/
import Derived.Shelf.LaysM
import Derived.Shelf.Strconv.AppendUint10
import Derived.Shelf.Strconv.AppendInt10
import Derived.Test.YtbklgjmkdhinpaaGreatDoorProg
import Derived.Shelf.LaysC
import Derived.Shelf.Strconv.Itoa3
import Derived.Shelf.Strconv.Itoa4
import Derived.Test.YtbklgjmkdhinpaaGreatDoorFmFun
import Derived.Lib.ItoaNum
import Derived.Test.YtbklgjmkdhinpaaGreatDoorFmRSetP
import Derived.Lib.ItoaLen
import Derived.Test.YtbklgjmkdhinpaaGreatDoorBdNMap
set_option maxHeartbeats 2000000
set_option maxRecDepth 100000
namespace Go.Proofs
open Go.Shelf
def Tryz.laysM288_ren : Go.Shelf.Ren := ⟨fun | 288 => 63 | 283 => 102 | 284 => 103 | 285 => 104 | 286 => 105 | 129 => 98 | 317 => 122 | 318 => 123 | 319 => 124 | 320 => 125 | 337 => 135 | 338 => 136 | n => n, fun | 37 => 74 | 53 => 76 | 3 => 3 | 4 => 4 | 9 => 9 | 171 => 147 | 0 => 0 | 173 => 149 | 212 => 170 | 51 => 136 | 5 => 5 | 20 => 20 | 213 => 171 | 46 => 46 | 232 => 202 | 233 => 203 | n => n, fun | 17 => 0 | 18 => 3 | 19 => 4 | n => n⟩
theorem Tryz.laysM288 : Go.Proofs.LaysM.n288 Tryz.prog Tryz.laysM288_ren := {
 mixed := by kernel_rfl
 f129 := Tryz.func98.trans (congrArg some (by kernel_rfl))
 f283 := Tryz.func102.trans (congrArg some (by kernel_rfl))
 f284 := Tryz.func103.trans (congrArg some (by kernel_rfl))
 f285 := Tryz.func104.trans (congrArg some (by kernel_rfl))
 f286 := Tryz.func105.trans (congrArg some (by kernel_rfl))
 f288 := Tryz.func63.trans (congrArg some (by kernel_rfl))
 f317 := Tryz.func122.trans (congrArg some (by kernel_rfl))
 f318 := Tryz.func123.trans (congrArg some (by kernel_rfl))
 f319 := Tryz.func124.trans (congrArg some (by kernel_rfl))
 f320 := Tryz.func125.trans (congrArg some (by kernel_rfl))
 f337 := Tryz.func135.trans (congrArg some (by kernel_rfl))
 f338 := Tryz.func136.trans (congrArg some (by kernel_rfl))
 t0 := Tryz.underlying0
 a0 := Tryz.isAgg0
 z0 := Tryz.sizeOf0
 v0 := Tryz.zeroValue0
 t3 := Tryz.underlying3
 a3 := Tryz.isAgg3
 z3 := Tryz.sizeOf3
 v3 := Tryz.zeroValue3
 t4 := Tryz.underlying4
 a4 := Tryz.isAgg4
 z4 := Tryz.sizeOf4
 v4 := Tryz.zeroValue4
 t5 := Tryz.underlying5
 a5 := Tryz.isAgg5
 z5 := Tryz.sizeOf5
 v5 := Tryz.zeroValue5
 t9 := Tryz.underlying9
 a9 := Tryz.isAgg9
 z9 := Tryz.sizeOf9
 v9 := Tryz.zeroValue9
 t20 := Tryz.underlying20
 a20 := Tryz.isAgg20
 z20 := Tryz.sizeOf20
 v20 := Tryz.zeroValue20
 t37 := Tryz.underlying74
 a37 := Tryz.isAgg74
 z37 := Tryz.sizeOf74
 v37 := Tryz.zeroValue74
 t46 := Tryz.underlying46
 a46 := Tryz.isAgg46
 z46 := Tryz.sizeOf46
 v46 := Tryz.zeroValue46
 t51 := Tryz.underlying136
 a51 := Tryz.isAgg136
 z51 := Tryz.sizeOf136
 v51 := Tryz.zeroValue136
 t53 := Tryz.underlying76
 a53 := Tryz.isAgg76
 z53 := Tryz.sizeOf76
 v53 := Tryz.zeroValue76
 t171 := Tryz.underlying147
 a171 := Tryz.isAgg147
 z171 := Tryz.sizeOf147
 v171 := Tryz.zeroValue147
 t173 := Tryz.underlying149
 a173 := Tryz.isAgg149
 z173 := Tryz.sizeOf149
 v173 := Tryz.zeroValue149
 t212 := Tryz.underlying170
 a212 := Tryz.isAgg170
 z212 := Tryz.sizeOf170
 v212 := Tryz.zeroValue170
 t213 := Tryz.underlying171
 a213 := Tryz.isAgg171
 z213 := Tryz.sizeOf171
 t232 := Tryz.underlying202
 a232 := Tryz.isAgg202
 z232 := Tryz.sizeOf202
 v232 := Tryz.zeroValue202
 t233 := Tryz.underlying203
 a233 := Tryz.isAgg203
 z233 := Tryz.sizeOf203
 v233 := Tryz.zeroValue203
 g17 := by kernel_rfl
 g18 := by kernel_rfl
 g19 := by kernel_rfl
 i0 := by kernel_rfl
 i3 := by kernel_rfl
 i4 := by kernel_rfl
 i5 := by kernel_rfl
 i9 := by kernel_rfl
 i20 := by kernel_rfl
 i37 := by kernel_rfl
 i46 := by kernel_rfl
 i51 := by kernel_rfl
 i53 := by kernel_rfl
 i171 := by kernel_rfl
 i173 := by kernel_rfl
 i212 := by kernel_rfl
 i232 := by kernel_rfl
 i233 := by kernel_rfl
 m17 := by kernel_rfl
 m18 := by kernel_rfl
 m19 := by kernel_rfl }
open Go.RowKit Go.Sort Go.Lib in
theorem Tryz.internal_strconv_AppendUint_10 (B n u : Nat) (hu64 : u < 18446744073709551616) (sv : Value) (xs : List Value) (w : World) (hown : w.ownsRow B 5 1 sv n xs) (hBw : B <= w.heap.size) (hlim : n + 20 <= 140737488355328) (htab : Lib.TabIs Tryz.prog w "internal/strconv.uint64pow10" .u64 Lib.pow10Tab) :
  Calls Tryz.prog 63 #[sv, .int .u64 u, .int .i64 10] w fun e w' => ∃ v', e = .returned v' /\ w'.ownsRow B 5 1 v' (n + (Lib.decDigits u).length) (xs ++ Lib.byteCells (Lib.decDigits u)) /\ Below B w w' /\ Lib.OthersKept 5 none w w' := Any.internal_strconv_AppendUint_10 Tryz.laysM288 B n u hu64 sv xs w hown hBw hlim htab
def Tryz.laysM171_ren : Go.Shelf.Ren := ⟨fun | 171 => 36 | 243 => 65 | 246 => 106 | 283 => 102 | 284 => 103 | 285 => 104 | 286 => 105 | 129 => 98 | 317 => 122 | 318 => 123 | 319 => 124 | 320 => 125 | 337 => 135 | 338 => 136 | n => n, fun | 3 => 3 | 9 => 9 | 2 => 2 | 4 => 4 | 171 => 147 | 0 => 0 | 53 => 76 | 37 => 74 | 5 => 5 | 173 => 149 | 212 => 170 | 51 => 136 | 20 => 20 | 213 => 171 | 46 => 46 | 232 => 202 | 233 => 203 | n => n, fun | 17 => 0 | 18 => 3 | 19 => 4 | n => n⟩
theorem Tryz.laysM171 : Go.Proofs.LaysM.n171 Tryz.prog Tryz.laysM171_ren := {
 mixed := by kernel_rfl
 f129 := Tryz.func98.trans (congrArg some (by kernel_rfl))
 f171 := Tryz.func36.trans (congrArg some (by kernel_rfl))
 f243 := Tryz.func65.trans (congrArg some (by kernel_rfl))
 f246 := Tryz.func106.trans (congrArg some (by kernel_rfl))
 f283 := Tryz.func102.trans (congrArg some (by kernel_rfl))
 f284 := Tryz.func103.trans (congrArg some (by kernel_rfl))
 f285 := Tryz.func104.trans (congrArg some (by kernel_rfl))
 f286 := Tryz.func105.trans (congrArg some (by kernel_rfl))
 f317 := Tryz.func122.trans (congrArg some (by kernel_rfl))
 f318 := Tryz.func123.trans (congrArg some (by kernel_rfl))
 f319 := Tryz.func124.trans (congrArg some (by kernel_rfl))
 f320 := Tryz.func125.trans (congrArg some (by kernel_rfl))
 f337 := Tryz.func135.trans (congrArg some (by kernel_rfl))
 f338 := Tryz.func136.trans (congrArg some (by kernel_rfl))
 t0 := Tryz.underlying0
 a0 := Tryz.isAgg0
 z0 := Tryz.sizeOf0
 v0 := Tryz.zeroValue0
 t2 := Tryz.underlying2
 a2 := Tryz.isAgg2
 z2 := Tryz.sizeOf2
 v2 := Tryz.zeroValue2
 t3 := Tryz.underlying3
 a3 := Tryz.isAgg3
 z3 := Tryz.sizeOf3
 v3 := Tryz.zeroValue3
 t4 := Tryz.underlying4
 a4 := Tryz.isAgg4
 z4 := Tryz.sizeOf4
 v4 := Tryz.zeroValue4
 t5 := Tryz.underlying5
 a5 := Tryz.isAgg5
 z5 := Tryz.sizeOf5
 v5 := Tryz.zeroValue5
 t9 := Tryz.underlying9
 a9 := Tryz.isAgg9
 z9 := Tryz.sizeOf9
 v9 := Tryz.zeroValue9
 t20 := Tryz.underlying20
 a20 := Tryz.isAgg20
 z20 := Tryz.sizeOf20
 v20 := Tryz.zeroValue20
 t37 := Tryz.underlying74
 a37 := Tryz.isAgg74
 z37 := Tryz.sizeOf74
 v37 := Tryz.zeroValue74
 t46 := Tryz.underlying46
 a46 := Tryz.isAgg46
 z46 := Tryz.sizeOf46
 v46 := Tryz.zeroValue46
 t51 := Tryz.underlying136
 a51 := Tryz.isAgg136
 z51 := Tryz.sizeOf136
 v51 := Tryz.zeroValue136
 t53 := Tryz.underlying76
 a53 := Tryz.isAgg76
 z53 := Tryz.sizeOf76
 v53 := Tryz.zeroValue76
 t171 := Tryz.underlying147
 a171 := Tryz.isAgg147
 z171 := Tryz.sizeOf147
 v171 := Tryz.zeroValue147
 t173 := Tryz.underlying149
 a173 := Tryz.isAgg149
 z173 := Tryz.sizeOf149
 v173 := Tryz.zeroValue149
 t212 := Tryz.underlying170
 a212 := Tryz.isAgg170
 z212 := Tryz.sizeOf170
 v212 := Tryz.zeroValue170
 t213 := Tryz.underlying171
 a213 := Tryz.isAgg171
 z213 := Tryz.sizeOf171
 t232 := Tryz.underlying202
 a232 := Tryz.isAgg202
 z232 := Tryz.sizeOf202
 v232 := Tryz.zeroValue202
 t233 := Tryz.underlying203
 a233 := Tryz.isAgg203
 z233 := Tryz.sizeOf203
 v233 := Tryz.zeroValue203
 g17 := by kernel_rfl
 g18 := by kernel_rfl
 g19 := by kernel_rfl
 i0 := by kernel_rfl
 i2 := by kernel_rfl
 i3 := by kernel_rfl
 i4 := by kernel_rfl
 i5 := by kernel_rfl
 i9 := by kernel_rfl
 i20 := by kernel_rfl
 i37 := by kernel_rfl
 i46 := by kernel_rfl
 i51 := by kernel_rfl
 i53 := by kernel_rfl
 i171 := by kernel_rfl
 i173 := by kernel_rfl
 i212 := by kernel_rfl
 i232 := by kernel_rfl
 i233 := by kernel_rfl
 m17 := by kernel_rfl
 m18 := by kernel_rfl
 m19 := by kernel_rfl }
open Go.RowKit Go.Sort Go.Lib in
theorem Tryz.strconv_Itoa (n : Int) (h0 : -9223372036854775808 <= n) (h1 : n <= 9223372036854775807) (w : World) (htab : Lib.TabIs Tryz.prog w "internal/strconv.uint64pow10" .u64 Lib.pow10Tab) :
  Calls Tryz.prog 36 #[.int .i64 n] w fun e w' => e = .returned (.string ⟨(Lib.itoa n).toArray⟩) /\ ∃ k os, w' = grow (w.drewN k) os := Any.strconv_Itoa Tryz.laysM171 n h0 h1 w htab
end Go.Proofs
namespace Go.Proofs.YtbklgjmkdhinpaaGreatDoor.Fm
open Go.RowKit Go.Maps Go.Proofs.YtbklgjmkdhinpaaGreatDoor.Bd Go.Proofs.YtbklgjmkdhinpaaGreatDoor.Bd.Num Go.Sort
theorem NatAt.small {w : World} {v : Value} {m : Nat} (h : NatAt w v m) (hm : m <= 100000000) :
  (m = 0 /\ ∃ a c, v = .agg #[.slice a 0 c]) \/ (m ≠ 0 /\ ∃ b off c, v = .agg #[.slice (some ⟨b, off, none⟩) 1 c] /\ b < w.heap.size /\ w.cell? ⟨b, off, none⟩ = some (.int .u64 (m : Int))) := by
 obtain ⟨s, ds, rfl, ⟨a, cap, rfl, hc, hi⟩, hN, hv, hl⟩ := h.open hm
 match ds, hl with
 | [], _ => exact .inl ⟨by rw [<- hv, val_nil], a, cap, rfl⟩
 | [d], _ =>
  obtain ⟨b, off, rfl, hb, hcell⟩ := hi 0 (by simp)
  have hd : val 1000000000 [d] = d := by unfold val; simp [S, dig]
  have h0 := hN.last (by simp)
  have e : d = m := by rw [<- hd]; exact hv
  subst e
  exact .inr ⟨h0, b, off, cap, rfl, hb, hcell⟩
theorem zero_c {w : World} {v : Value} {m : Nat} (h : NatAt w v m) (hm : m <= 100000000) : Calls Tryz.prog 33 #[v] w fun e w' => e = .returned (.bool (decide (m = 0))) /\ Below w.heap.size w w' := by
 rcases h.small hm with ⟨h0, a, c, rfl⟩ | ⟨h0, b, off, c, rfl, -, -⟩
 ·rw [decide_eq_true h0]
  clear h hm h0
  have HB : Hid (Below w.heap.size w (w.alloc (.cells #[.slice a 0 c] 38))) := below_new w _
  go_enter Tryz.func33, Tryz.ntmps33
  go_wp2
  go_ret
  exact ⟨by first | rfl | simp, HB.out⟩
 ·rw [decide_eq_false h0]
  clear h hm h0
  have HB : Hid (Below w.heap.size w (w.alloc (.cells #[.slice (some ⟨b, off, none⟩) 1 c] 38))) := below_new w _
  go_enter Tryz.func33, Tryz.ntmps33
  go_wp2
  go_ret
  exact ⟨by first | rfl | simp, HB.out⟩
theorem append_c (B u : Nat) (hu64 : u < 18446744073709551616) (w : World) (hBw : B <= w.heap.size) (htab : Lib.TabIs Tryz.prog w "internal/strconv.uint64pow10" .u64 Lib.pow10Tab) :
  Calls Tryz.prog 34 #[.slice none 0 0, .int .u64 (u : Int), .int .i64 10] w fun e w' => ∃ v', e = .returned v' /\ w'.ownsRow B 5 1 v' (Lib.decDigits u).length (Lib.byteCells (Lib.decDigits u)) /\ Below B w w' := by
 have H0 := Tryz.internal_strconv_AppendUint_10 B 0 u hu64 (.slice none 0 0) [] w (World.ownsRow_nil _ _ _ _) hBw (by omega) htab
 have H := Lib.hid H0
 clear H0 htab
 go_enter Tryz.func34, Tryz.ntmps34
 go_wp2_with fail
 refine H.out.mono ?_
 rintro e w1 ⟨v', rfl, h1, h2, -⟩
 have HF : Hid (w1.ownsRow B 5 1 v' (Lib.decDigits u).length (Lib.byteCells (Lib.decDigits u)) /\ Below B w w1) := by
  have : w1.ownsRow B 5 1 v' (Lib.decDigits u).length (Lib.byteCells (Lib.decDigits u)) := by simpa using h1
  exact ⟨this, h2⟩
 clear h1 h2
 go_wp2
 go_ret
 exact ⟨v', rfl, HF.out⟩
theorem conv_owned {w : World} {base : Nat} {v : Value} {l : List UInt8} (h : w.ownsRow base 5 1 v l.length (Lib.byteCells l)) (hl : l ≠ []) :
  (convert 74 9 v).run Tryz.prog w = .ok (.string ⟨l.toArray⟩) w := by
 rcases id h.2 with ⟨h1, h2⟩ | ⟨g, cap, cur, h1, hb, hg, h2, _⟩
 ·exact absurd (List.length_eq_zero_iff.1 h2) hl
 ·subst h1
  refine run_convert_bytes_back (P := Tryz.prog) w 74 9 5 ⟨g, 0, none⟩ cap l Tryz.underlying74 Tryz.underlying5 Tryz.underlying9 (fun j hj => ?_)
  rw [Lib.add_plain, Nat.zero_add, h.cellAt j (by omega)]
  simp [Lib.byteCells, hj]
theorem decD_zero : Lib.decDigits 0 = [48] := by kernel_rfl
theorem text_c {w : World} {v : Value} {m : Nat} (h : NatAt w v m) (hm : m <= 100000000) (htab : Lib.TabIs Tryz.prog w "internal/strconv.uint64pow10" .u64 Lib.pow10Tab) :
  Calls Tryz.prog 11 #[v] w fun e w' => e = .returned (.string ⟨(Lib.decDigits m).toArray⟩) /\ Below w.heap.size w w' := by
 rcases h.small hm with ⟨h0, a, c, rfl⟩ | ⟨h0, b, off, c, rfl, hb, hcell⟩
 ·have hb0 := below_new w (.cells #[.slice a 0 c] 38)
  have hz := zero_c (h.new hb0) hm
  rw [decide_eq_true h0] at hz
  have HZ := Lib.hid hz
  have HB := Lib.hid hb0
  subst h0
  rw [decD_zero]
  clear h hm hz hb0 htab
  go_enter Tryz.func11, Tryz.ntmps11
  go_wp2_with fail
  refine HZ.out.mono ?_
  rintro e w1 ⟨rfl, hb1⟩
  have HB1 : Hid (Below w.heap.size w w1) := HB.out.trans (hb1.mono HB.out.size)
  clear hb1 HZ HB
  go_wp2
  go_ret
  exact ⟨rfl, HB1.out⟩
 ·have hb0 := below_new w (.cells #[.slice (some ⟨b, off, none⟩) 1 c] 38)
  have hz := zero_c (h.new hb0) hm
  rw [decide_eq_false h0] at hz
  have HZ := Lib.hid hz
  have HB := Lib.hid hb0
  have c0 : (w.alloc (.cells #[.slice (some ⟨b, off, none⟩) 1 c] 38)).cell? ⟨w.heap.size, 0, none⟩ = some (.slice (some ⟨b, off, none⟩) 1 c) := by simp
  have c1 := (hb0.cell (p := ⟨b, off, none⟩) hb).trans hcell
  have hsz : (w.alloc (.cells #[.slice (some ⟨b, off, none⟩) 1 c] 38)).heap.size = w.heap.size + 1 := World.size_alloc _ _
  have hlt : b < (w.alloc (.cells #[.slice (some ⟨b, off, none⟩) 1 c] 38)).heap.size := by omega
  have HT : Hid (∀ W, Below w.heap.size w W -> Lib.TabIs Tryz.prog W "internal/strconv.uint64pow10" .u64 Lib.pow10Tab) := fun W hW => Lib.tabBelow_of_tabIs htab W hW
  have hne : Lib.decDigits m ≠ [] := fun h => by
   have h1 := Lib.decDigits_length m
   have h2 := Lib.nDigits_pos m
   rw [h, List.length_nil] at h1
   omega
  have HNE := Lib.hid hne
  clear h hz hb0 htab hcell hne
  go_enter Tryz.func11, Tryz.ntmps11
  go_upto_region 1 with fail
  generalize w.alloc (.cells #[.slice (some ⟨b, off, none⟩) 1 c] 38) = W0 at *
  go_wp2_with fail
  refine HZ.out.mono ?_
  rintro e w1 ⟨rfl, hb1⟩
  have d0 : w1.cell? ⟨w.heap.size, 0, none⟩ = some (.slice (some ⟨b, off, none⟩) 1 c) := (hb1.cell (p := ⟨w.heap.size, 0, none⟩) (by show w.heap.size < _; omega)).trans c0
  have d1 : w1.cell? ⟨b, off, none⟩ = some (.int .u64 (m : Int)) := (hb1.cell (p := ⟨b, off, none⟩) hlt).trans c1
  have hB1 : Below w.heap.size w w1 := HB.out.trans (hb1.mono HB.out.size)
  have HAP := Lib.hid (append_c w1.heap.size m (by omega) w1 (Nat.le_refl _) (HT.out w1 hB1))
  have HB1 := Lib.hid hB1
  clear hb1 HZ HB c0 c1 HT hB1
  go_wp2_with fail
  refine HAP.out.mono ?_
  rintro e w2 ⟨v2, rfl, hrow, hb2⟩
  have hcv := conv_owned hrow HNE.out
  have HB2 : Hid (Below w.heap.size w w2) := HB1.out.trans (hb2.mono HB1.out.size)
  clear hb2 HAP HB1 d0 d1 hrow HNE
  go_wp2_with fail
  go_loopw [4, 20] (fun o i wr => o = v2 /\ i = .int .i64 0 /\ wr = w2) (fun _ _ _ => 0)
  case atStart => exact ⟨rfl, rfl, rfl⟩
  case round =>
   obtain ⟨rfl, rfl, rfl⟩ := hrel
   go_wp2
   go_ret
   exact ⟨rfl, HB2.out⟩
end Go.Proofs.YtbklgjmkdhinpaaGreatDoor.Fm
namespace Go.Proofs.YtbklgjmkdhinpaaGreatDoor.Fm
open Go.RowKit Go.Maps Go.Shelf Go.Proofs.YtbklgjmkdhinpaaGreatDoor.Bd
theorem itoa_int (n : Int) (hn : -9223372036854775808 <= n /\ n <= 9223372036854775807) (w : World) (hw : Lib.TabIs Tryz.prog w "internal/strconv.uint64pow10" .u64 Lib.pow10Tab) : Calls Tryz.prog 36 #[.int .i64 n] w fun e w' => e = .returned (.string ⟨(Lib.itoa n).toArray⟩) /\ Below w.heap.size w w' :=
 (Tryz.strconv_Itoa n hn.1 hn.2 w hw).mono fun _ _ ⟨he, k, os, hw'⟩ => ⟨he, hw' ▸ Lib.below_grow _ w (Nat.le_refl _) k os⟩
theorem infoStrI : (Tryz.prog.info? 9).map (fun i => (i.zero, i.size, i.bytes)) = some (some (.string ⟨#[]⟩), 1, 16) := by kernel_rfl
theorem itoa_nat (n : Nat) : Lib.itoa (n : Int) = Lib.decDigits n := by unfold Lib.itoa; rw [if_neg (by omega), Int.toNat_natCast]
theorem join1 (g c : Nat) (s : ByteArray) (w : World) (h : w.cell? ⟨g, 0, none⟩ = some (.string s)) : Calls Tryz.prog 37 #[.slice (some ⟨g, 0, none⟩) 1 c, .string ⟨#[32]⟩] w fun e w' => e = .returned (.string s) /\ w = w' := by
 go_enter Tryz.func37, Tryz.ntmps37
 go_wp2
 go_ret
 exact ⟨rfl, rfl⟩
theorem row_formS {B n : Nat} {w : World} {v : Value} {t : TypeId} {cs : List Value} (h : w.ownsRow B t 1 v n cs) : ∃ a c, v = .slice a n c /\ n <= c /\ c <= 9223372036854775807 := by
 rcases h.2 with ⟨e, e0⟩ | ⟨g, cap, cur, e, -, -, h1, h2, -⟩
 ·exact ⟨none, 0, by rw [e, e0], by omega, by omega⟩
 ·unfold maxLen at h2; exact ⟨_, _, e, h1, h2⟩
theorem told1_any (n : Nat) (hn : n <= 100000000) (bs cp : Nat) (w : World) (hw : Lib.TabIs Tryz.prog w "internal/strconv.uint64pow10" .u64 Lib.pow10Tab) (h0 : w.cell? ⟨bs, 0, none⟩ = some (.int .i64 (n : Int))) :
  Calls Tryz.prog 12 #[.slice (some ⟨bs, 0, none⟩) 1 cp] w fun e w' => e = .returned (.string ⟨(Lib.decDigits n).toArray⟩) /\ Below w.heap.size w w' := by
 obtain ⟨i0, hin, hz0, hz1, hz2⟩ := info_parts infoStrI
 have HI := itoa_int (n : Int) (by omega) w hw
 rw [itoa_nat] at HI
 have HIT := Lib.hid HI
 clear HI hw
 generalize (⟨(Lib.decDigits n).toArray⟩ : ByteArray) = R at *
 go_enter Tryz.func12, Tryz.ntmps12
 go_wp2_with fail
 go_loopw [3, 8] (fun v i wr => (i = .int .i64 0 /\ v = .slice none 0 0 /\ wr = w) \/ (i = .int .i64 1 /\ wr.ownsRow w.heap.size 9 1 v 1 [.string R] /\ Below w.heap.size w wr)) (fun _ i _ => 1 - (intOf i).toNat)
 case atStart => exact Or.inl ⟨rfl, rfl, rfl⟩
 case round =>
  rcases hrel with ⟨rfl, rfl, rfl⟩ | ⟨rfl, hrow, hb⟩
  ·go_wp2_with fail
   refine HIT.out.mono ?_
   rintro e w2 ⟨rfl, hb2⟩
   have hs2 := hb2.size
   have HB2 := Lib.hid hb2
   clear hb2 HIT h0
   go_wp2_with (at_builtin; refine wpList_append_own_at _ rfl _ _ 78 rfl wr.heap.size 9 i0 (.string ⟨#[]⟩) 1 16 Tryz.underlying78 hin hz0 hz1 hz2 rfl (by decide) _ _ _ rfl (World.ownsRow_nil _ _ _ _) ⟨w2.heap.size, 0, none⟩ 1 1 [.string R] rfl rfl ?e1 ?e2 ?e3 ?e4 ?e5 ?_)
   case e1 => exact cell_one_newN _ _ _
   case e2 => exact fun u hu => by rw [List.mem_singleton] at hu; subst hu; rfl
   case e3 => unfold maxLen; omega
   case e4 => omega
   case e5 => simp; omega
   intro v8 w8 hown8 hgrow8 _ hloc8
   have HR8 : Hid (w8.ownsRow wr.heap.size 9 1 v8 1 [.string R]) := (show w8.ownsRow wr.heap.size 9 1 v8 1 [.string R] by simpa using hown8)
   have HB8 : Hid (Below wr.heap.size wr w8) := (HB2.out.alloc hs2 _).grown hgrow8 (by simp; omega) (fun k hk => by cases hk)
   obtain ⟨v8a, v8c, rfl, -⟩ := row_formS HR8.out
   clear hown8 hgrow8 hloc8
   go_wp2
   go_roundw
   case rel => exact Or.inr ⟨by go_num, HR8.out, HB8.out⟩
   case measure => simp [intOf]
  ·obtain ⟨va, vc, rfl, -⟩ := row_formS hrow
   have hva : ∃ g, va = some ⟨g, 0, none⟩ /\ wr.cell? ⟨g, 0, none⟩ = some (.string R) := by
    rcases hrow.2 with ⟨e, e0⟩ | ⟨g, cap, cur, e, -⟩
    ·omega
    ·injection e with e1 e2 e3
     subst e1
     exact ⟨g, rfl, hrow.cellAt 0 (by omega)⟩
   obtain ⟨g, rfl, hg⟩ := hva
   have HJ := Lib.hid (join1 g vc R wr hg)
   have HB := Lib.hid hb
   clear hrow hb HIT hg
   go_wp2_with fail
   refine HJ.out.mono ?_
   rintro e w3 ⟨rfl, rfl⟩
   go_wp2
   go_ret
   exact ⟨rfl, HB.out⟩
end Go.Proofs.YtbklgjmkdhinpaaGreatDoor.Fm
namespace Go.Proofs.YtbklgjmkdhinpaaGreatDoor
open Go.RowKit Go.Extern.Stop Go.Stop Go.Extern
theorem noAt (n : Int) (w : World) : (Instr.typeAssert (.iface 42 (.int .i64 n)) 33 141 true).run Tryz.prog w = .ok (.tuple #[.pointer none, .bool false]) w := by kernel_rfl
theorem noUnwrap (n : Int) (w : World) : (Instr.typeAssert (.iface 42 (.int .i64 n)) 33 144 true).run Tryz.prog w = .ok (.tuple #[.nilIface, .bool false]) w := run_typeAssert_lacksB Tryz.underlying144 (by kernel_rfl) (by kernel_rfl) _ 33 w
theorem place_errno (n : Int) (w : World) (hg : Glob w) : Calls Tryz.prog 62 #[.iface 42 (.int .i64 n)] w fun e w' => e = .returned (.tuple #[.int .i64 n, .int .i64 (-1)]) /\ Below w.heap.size w w' := by
 have H := tell_errno n w hg
 have h1 := noAt n
 have h2 := noUnwrap n
 go_enter Tryz.func62, Tryz.ntmps62
 go_wp2_with fail
 refine H.mono ?_
 rintro e w' ⟨rfl, hb⟩
 clear H
 go_wp2_with fail
 refine wp_loop_rounds 1 ?_
 rw [rounds_succ]
 go_wp2
 go_ret2
 exact ⟨rfl, hb⟩
theorem refBare (k : Int) (w : World) : Calls Tryz.prog 32 #[.int .i64 k] w fun e w' => e = .returned (.agg #[.int .i64 k, .int .i64 (-1)]) /\ Below w.heap.size w w' := by
 go_enter Tryz.func32, Tryz.ntmps32
 go_wp2
 exact bodyPost_ret (v := .agg #[.int .i64 k, .int .i64 (-1)]) (by simp [results, Tryz.results32, go_sem]) rfl ⟨rfl, (Below.refl _ _).alloc (Nat.le_refl _) _⟩
theorem at_any (m k pl pk : Int) (v : Value) (w : World) (H : ∀ W : World, Below w.heap.size w W -> Calls Tryz.prog 62 #[v] W fun e w' => e = .returned (.tuple #[.int .i64 m, .int .i64 pl]) /\ Below W.heap.size W w') :
  Calls Tryz.prog 31 #[v, .agg #[.int .i64 k, .int .i64 pk]] w fun e w' => e = .returned (.bool (m == k && pl == pk)) /\ Below w.heap.size w w' := by
 have HH : Hid (∀ W : World, Below w.heap.size w W -> Calls Tryz.prog 62 #[v] W fun e w' => e = .returned (.tuple #[.int .i64 m, .int .i64 pl]) /\ Below W.heap.size W w') := H
 clear H
 have hb1 : Below w.heap.size w (w.alloc (.cells #[.int .i64 k, .int .i64 pk] 71)) := (Below.refl _ _).alloc (Nat.le_refl _) _
 have fin : ∀ q r : Bool, (m == k) = q -> (pl == pk) = r -> Calls Tryz.prog 31 #[v, .agg #[.int .i64 k, .int .i64 pk]] w fun e w' => e = .returned (.bool (q && r)) /\ Below w.heap.size w w' := by
  intro q r hq hr
  cases q <;> cases r
  all_goals
   go_enter Tryz.func31, Tryz.ntmps31
   go_wp2_with fail
   refine (HH.out _ hb1).mono ?_
   rintro e w2 ⟨rfl, hb2⟩
   have c0 : w2.cell? ⟨w.heap.size, 0, none⟩ = some (.int .i64 k) := (hb2.cell (p := ⟨w.heap.size, 0, none⟩) (by simp)).trans (by simp)
   have c1 : w2.cell? ⟨w.heap.size, 1, none⟩ = some (.int .i64 pk) := (hb2.cell (p := ⟨w.heap.size, 1, none⟩) (by simp)).trans (by simp)
   have hb3 : Below w.heap.size w w2 := hb1.trans (hb2.mono (by simp))
   clear hb2
   go_wp2
   go_ret
   exact ⟨rfl, hb3⟩
 exact fin _ _ rfl rfl
theorem bare_core (m k pl : Int) (v : Value) (w : World) (H : ∀ W : World, Below w.heap.size w W -> Calls Tryz.prog 62 #[v] W fun e w' => e = .returned (.tuple #[.int .i64 m, .int .i64 pl]) /\ Below W.heap.size W w') :
  Calls Tryz.prog 9 #[v, .int .i64 k] w fun e w' => e = .returned (.bool (m == k && pl == -1)) /\ Below w.heap.size w w' := by
 have HH : Hid (∀ W : World, Below w.heap.size w W -> Calls Tryz.prog 62 #[v] W fun e w' => e = .returned (.tuple #[.int .i64 m, .int .i64 pl]) /\ Below W.heap.size W w') := H
 clear H
 generalize hz : (m == k && pl == -1) = z
 go_enter Tryz.func9, Tryz.ntmps9
 go_wp2_with fail
 refine (refBare k _).mono ?_
 rintro e w1 ⟨rfl, hb1⟩
 have HA := at_any m k pl (-1) v w1 (fun W hW => HH.out W (hb1.trans (hW.mono hb1.size)))
 rw [hz] at HA
 clear hz
 go_wp2_with fail
 refine HA.mono ?_
 rintro e w2 ⟨rfl, hb2⟩
 go_wp2
 go_ret
 exact ⟨rfl, hb1.trans (hb2.mono hb1.size)⟩
theorem bare_errno (m k : Int) (w : World) (hg : Glob w) : Calls Tryz.prog 9 #[.iface 42 (.int .i64 m), .int .i64 k] w fun e w' => e = .returned (.bool (m == k)) /\ Below w.heap.size w w' := by
 have := bare_core m k (-1) (.iface 42 (.int .i64 m)) w (fun W hW => place_errno m W (hg.below hW))
 simpa using this
end Go.Proofs.YtbklgjmkdhinpaaGreatDoor
