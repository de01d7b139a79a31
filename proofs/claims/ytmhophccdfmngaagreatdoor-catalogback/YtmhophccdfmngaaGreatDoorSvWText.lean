/- The text of any version. -/
import Derived.Test.YtmhophccdfmngaaGreatDoorCtRuledP
import Derived.Test.YtmhophccdfmngaaGreatDoorCtParse
import Derived.Shelf.LaysM
import Derived.Shelf.LaysC
import Derived.Shelf.Strings.OnBuilder
import Derived.Shelf.Strings.Split
import Derived.Shelf.Strings.Replace
import Derived.Shelf.Strings.BuilderK
import Derived.Shelf.Small.Strs
import Derived.Shelf.Strconv.Itoa3
import Derived.Shelf.Strconv.Itoa4
import Derived.Test.YtmhophccdfmngaaGreatDoorProg
import Derived.Test.YtmhophccdfmngaaGreatDoorCtName
import Derived.Test.YtmhophccdfmngaaGreatDoorSvCuts
import Derived.Lib.ItoaLen
set_option maxHeartbeats 2000000
set_option maxRecDepth 100000
namespace Go.Proofs.YtmhophccdfmngaaGreatDoor
open Go.RowKit Go.Deep Sv
theorem one_numb : ctNumb oneI ⟨nmA, 2, 0, 0⟩ = 0 := by kernel_rfl
theorem listed_c (w : World) (hw : Lw w) : Calls Tryz.prog 46 #[] w fun e w' => e = .returned (.bool true) /\ Below w.heap.size w w' := by
 have HP : Hid (Calls Tryz.prog 43 #[.string ⟨#[112, 97, 99, 107, 97, 103, 101, 32, 97, 32, 49, 46, 48, 46, 48, 10, 112, 97, 99, 107, 97, 103, 101, 32, 97, 32, 50, 46, 48, 46, 48, 10, 114, 111, 111, 116, 32, 97, 32, 97, 110, 121, 10]⟩] w fun e w' => ∃ bc, e = .returned (.tuple #[.pointer (some ⟨bc, 0, none⟩), .nilIface]) /\ CatAt w' bc oneL oneI /\ Below w.heap.size w w') := by
  have h := parse_any_c oneT w hw
  rw [one_parse] at h
  refine h.mono ?_
  rintro e w' ⟨bc, vs, rfl, h1, -, h3⟩
  exact ⟨bc, rfl, h1.cat, h3⟩
 have HI : Hid (∀ bc W, CatAt W bc oneL oneI -> Calls Tryz.prog 33 #[.pointer (some ⟨bc, 0, none⟩)] W fun e w' => ∃ a c, e = .returned (.slice a 2 c) /\ Below W.heap.size W w') := fun bc W h => (items_c bc oneL oneI W h (by simp [oneI])).mono fun e w' ⟨v', he, h1, h2⟩ => by
  obtain ⟨a, c, e1, -⟩ := (rowAt_own h1).form
  exact ⟨a, c, by rw [he, e1]; rfl, h2⟩
 have HN : Hid (∀ bc W, CatAt W bc oneL oneI -> Calls Tryz.prog 37 #[.pointer (some ⟨bc, 0, none⟩), .string ⟨#[97]⟩, .agg #[.int .i64 2, .int .i64 0, .int .i64 0]] W fun e w' => e = .returned (.int .i64 0) /\ Below W.heap.size W w') := fun bc W h => by
  have h1 := number_c bc oneL oneI nmA 2 0 0 W h (by simp [oneI])
  rw [one_numb] at h1
  exact h1
 have HL : Hid (∀ bc W, CatAt W bc oneL oneI -> Calls Tryz.prog 34 #[.pointer (some ⟨bc, 0, none⟩)] W fun e w' => ∃ a c, e = .returned (.slice a 3 c) /\ Below W.heap.size W w') := fun bc W h => (lines_c bc oneL oneI W h (by simp [oneL])).mono fun e w' ⟨v', he, ⟨vs, _, h1⟩, h2⟩ => by
  obtain ⟨a, c, e1, -⟩ := h1.form
  exact ⟨a, c, by rw [he, e1]; rfl, h2⟩
 clear hw
 go_enter Tryz.func46, Tryz.ntmps46
 go_wp2_with fail
 refine HP.out.mono ?_
 rintro e w1 ⟨bc, rfl, hc1, hb1⟩
 have HC1 := Lib.hid hc1
 have HB1 := Lib.hid hb1
 clear hc1 hb1 HP
 go_wp2_with fail
 refine (HI.out bc w1 HC1.out).mono ?_
 rintro e w2 ⟨a2, c2, rfl, hb2⟩
 have HC2 := Lib.hid (HC1.out.below hb2 (Nat.le_refl _))
 have HB2 : Hid (Below w.heap.size w w2) := HB1.out.trans (hb2.mono HB1.out.size)
 clear hb2 HI HC1 HB1
 go_wp2_with fail
 refine (HN.out bc w2 HC2.out).mono ?_
 rintro e w3 ⟨rfl, hb3⟩
 have HC3 := Lib.hid (HC2.out.below hb3 (Nat.le_refl _))
 have HB3 : Hid (Below w.heap.size w w3) := HB2.out.trans (hb3.mono HB2.out.size)
 clear hb3 HN HC2 HB2
 go_wp2_with fail
 refine (HL.out bc w3 HC3.out).mono ?_
 rintro e w4 ⟨a4, c4, rfl, hb4⟩
 have HB4 : Hid (Below w.heap.size w w4) := HB3.out.trans (hb4.mono HB3.out.size)
 clear hb4 HL HC3 HB3
 go_wp2
 go_ret
 exact ⟨rfl, HB4.out⟩
end Go.Proofs.YtmhophccdfmngaaGreatDoor
namespace Go.Proofs
open Go.Shelf
def Tryz.lays169_ren : Go.Shelf.Ren := ⟨fun | 169 => 67 | n => n, fun | 70 => 122 | 9 => 9 | 0 => 0 | 72 => 125 | 37 => 123 | 127 => 192 | 3 => 3 | 5 => 5 | n => n, fun | n => n⟩
theorem Tryz.lays169 : Go.Proofs.Lays.n169 Tryz.prog Tryz.lays169_ren := {
 mixed := by kernel_rfl
 f169 := Tryz.func67.trans (congrArg some (by kernel_rfl))
 t0 := Tryz.underlying0
 a0 := Tryz.isAgg0
 z0 := Tryz.sizeOf0
 v0 := Tryz.zeroValue0
 t3 := Tryz.underlying3
 a3 := Tryz.isAgg3
 z3 := Tryz.sizeOf3
 v3 := Tryz.zeroValue3
 t9 := Tryz.underlying9
 a9 := Tryz.isAgg9
 z9 := Tryz.sizeOf9
 v9 := Tryz.zeroValue9
 t37 := Tryz.underlying123
 a37 := Tryz.isAgg123
 z37 := Tryz.sizeOf123
 v37 := Tryz.zeroValue123
 t70 := Tryz.underlying122
 a70 := Tryz.isAgg122
 z70 := Tryz.sizeOf122
 v70 := Tryz.zeroValue122
 t72 := Tryz.underlying125
 a72 := Tryz.isAgg125
 z72 := Tryz.sizeOf125
 v72 := Tryz.zeroValue125
 t127 := Tryz.underlying192
 a127 := Tryz.isAgg192
 z127 := Tryz.sizeOf192
 v127 := Tryz.zeroValue192 }
theorem Tryz.Builder_Extra_169 : Builder.Extra Tryz.prog Tryz.lays169_ren := {
 sizeBuilder := by kernel_rfl
 liesBuilder := by kernel_rfl
 t5 := Tryz.underlying5
 a5 := Tryz.isAgg5
 z5 := Tryz.sizeOf5
 v5 := Tryz.zeroValue5
 infoByte := by kernel_rfl
 cellsByte := by kernel_rfl
 sizeByte := by kernel_rfl
 neB5 := by decide }
def Tryz.lays156_ren : Go.Shelf.Ren := ⟨fun | 156 => 69 | 165 => 120 | 166 => 65 | 169 => 67 | 240 => 117 | 241 => 152 | 276 => 150 | 277 => 179 | n => n, fun | 31 => 111 | 9 => 9 | 3 => 3 | 4 => 4 | 0 => 0 | 20 => 20 | 72 => 125 | 76 => 128 | 70 => 122 | 37 => 123 | 75 => 33 | 127 => 192 | 164 => 224 | 5 => 5 | 80 => 38 | n => n, fun | n => n⟩
theorem Tryz.lays156 : Go.Proofs.Lays.n156 Tryz.prog Tryz.lays156_ren := {
 mixed := by kernel_rfl
 f156 := Tryz.func69.trans (congrArg some (by kernel_rfl))
 f165 := Tryz.func120.trans (congrArg some (by kernel_rfl))
 f166 := Tryz.func65.trans (congrArg some (by kernel_rfl))
 f169 := Tryz.func67.trans (congrArg some (by kernel_rfl))
 f240 := Tryz.func117.trans (congrArg some (by kernel_rfl))
 f241 := Tryz.func152.trans (congrArg some (by kernel_rfl))
 f276 := Tryz.func150.trans (congrArg some (by kernel_rfl))
 f277 := Tryz.func179.trans (congrArg some (by kernel_rfl))
 t0 := Tryz.underlying0
 a0 := Tryz.isAgg0
 z0 := Tryz.sizeOf0
 v0 := Tryz.zeroValue0
 t3 := Tryz.underlying3
 a3 := Tryz.isAgg3
 z3 := Tryz.sizeOf3
 v3 := Tryz.zeroValue3
 t4 := Tryz.underlying4
 a4 := Tryz.isAgg4
 z4 := Tryz.sizeOf4
 v4 := Tryz.zeroValue4
 t9 := Tryz.underlying9
 a9 := Tryz.isAgg9
 z9 := Tryz.sizeOf9
 v9 := Tryz.zeroValue9
 t20 := Tryz.underlying20
 a20 := Tryz.isAgg20
 z20 := Tryz.sizeOf20
 v20 := Tryz.zeroValue20
 t31 := Tryz.underlying111
 a31 := Tryz.isAgg111
 z31 := Tryz.sizeOf111
 v31 := Tryz.zeroValue111
 t37 := Tryz.underlying123
 a37 := Tryz.isAgg123
 z37 := Tryz.sizeOf123
 v37 := Tryz.zeroValue123
 t70 := Tryz.underlying122
 a70 := Tryz.isAgg122
 z70 := Tryz.sizeOf122
 v70 := Tryz.zeroValue122
 t72 := Tryz.underlying125
 a72 := Tryz.isAgg125
 z72 := Tryz.sizeOf125
 v72 := Tryz.zeroValue125
 t75 := Tryz.underlying33
 a75 := Tryz.isAgg33
 z75 := Tryz.sizeOf33
 v75 := Tryz.zeroValue33
 t76 := Tryz.underlying128
 a76 := Tryz.isAgg128
 z76 := Tryz.sizeOf128
 v76 := Tryz.zeroValue128
 t127 := Tryz.underlying192
 a127 := Tryz.isAgg192
 z127 := Tryz.sizeOf192
 v127 := Tryz.zeroValue192
 t164 := Tryz.underlying224
 a164 := Tryz.isAgg224
 z164 := Tryz.sizeOf224
 v164 := Tryz.zeroValue224 }
theorem Tryz.Builder_Extra_156 : Builder.Extra Tryz.prog Tryz.lays156_ren := {
 sizeBuilder := by kernel_rfl
 liesBuilder := by kernel_rfl
 t5 := Tryz.underlying5
 a5 := Tryz.isAgg5
 z5 := Tryz.sizeOf5
 v5 := Tryz.zeroValue5
 infoByte := by kernel_rfl
 cellsByte := by kernel_rfl
 sizeByte := by kernel_rfl
 neB5 := by decide }
open Go.RowKit in
theorem Tryz.Builder_String_any_k (B b : Nat) (l : List UInt8) (w : World) (h : Lib.IsBuilderF 125 5 B b (Lib.byteCells l) w) (hBw : B <= w.heap.size) :
  Calls Tryz.prog 67 #[.pointer (some ⟨b, 0, none⟩)] w fun e w' => e = .returned (.string ⟨l.toArray⟩) /\ (Lib.IsBuilderF 125 5 B b (Lib.byteCells l) w' /\ Below B w w' /\ Lib.OthersKept 5 (some b) w w') := Any.Builder_String_any_k Tryz.lays169 Tryz.Builder_Extra_169 B b l w h hBw
def Tryz.laysM171_ren : Go.Shelf.Ren := ⟨fun | 171 => 151 | 243 => 178 | 246 => 197 | 283 => 212 | 284 => 213 | 285 => 214 | 286 => 215 | 129 => 189 | 317 => 222 | 318 => 223 | 319 => 224 | 320 => 225 | 337 => 226 | 338 => 227 | n => n, fun | 3 => 3 | 9 => 9 | 2 => 2 | 4 => 4 | 171 => 290 | 0 => 0 | 53 => 260 | 37 => 123 | 5 => 5 | 173 => 292 | 212 => 308 | 51 => 258 | 20 => 20 | 213 => 309 | 46 => 105 | 232 => 313 | 233 => 314 | n => n, fun | 17 => 9 | 18 => 10 | 19 => 11 | n => n⟩
theorem Tryz.laysM171 : Go.Proofs.LaysM.n171 Tryz.prog Tryz.laysM171_ren := {
 mixed := by kernel_rfl
 f129 := Tryz.func189.trans (congrArg some (by kernel_rfl))
 f171 := Tryz.func151.trans (congrArg some (by kernel_rfl))
 f243 := Tryz.func178.trans (congrArg some (by kernel_rfl))
 f246 := Tryz.func197.trans (congrArg some (by kernel_rfl))
 f283 := Tryz.func212.trans (congrArg some (by kernel_rfl))
 f284 := Tryz.func213.trans (congrArg some (by kernel_rfl))
 f285 := Tryz.func214.trans (congrArg some (by kernel_rfl))
 f286 := Tryz.func215.trans (congrArg some (by kernel_rfl))
 f317 := Tryz.func222.trans (congrArg some (by kernel_rfl))
 f318 := Tryz.func223.trans (congrArg some (by kernel_rfl))
 f319 := Tryz.func224.trans (congrArg some (by kernel_rfl))
 f320 := Tryz.func225.trans (congrArg some (by kernel_rfl))
 f337 := Tryz.func226.trans (congrArg some (by kernel_rfl))
 f338 := Tryz.func227.trans (congrArg some (by kernel_rfl))
 t0 := Tryz.underlying0
 a0 := Tryz.isAgg0
 z0 := Tryz.sizeOf0
 v0 := Tryz.zeroValue0
 t2 := Tryz.underlying2
 a2 := Tryz.isAgg2
 z2 := Tryz.sizeOf2
 v2 := Tryz.zeroValue2
 t3 := Tryz.underlying3
 a3 := Tryz.isAgg3
 z3 := Tryz.sizeOf3
 v3 := Tryz.zeroValue3
 t4 := Tryz.underlying4
 a4 := Tryz.isAgg4
 z4 := Tryz.sizeOf4
 v4 := Tryz.zeroValue4
 t5 := Tryz.underlying5
 a5 := Tryz.isAgg5
 z5 := Tryz.sizeOf5
 v5 := Tryz.zeroValue5
 t9 := Tryz.underlying9
 a9 := Tryz.isAgg9
 z9 := Tryz.sizeOf9
 v9 := Tryz.zeroValue9
 t20 := Tryz.underlying20
 a20 := Tryz.isAgg20
 z20 := Tryz.sizeOf20
 v20 := Tryz.zeroValue20
 t37 := Tryz.underlying123
 a37 := Tryz.isAgg123
 z37 := Tryz.sizeOf123
 v37 := Tryz.zeroValue123
 t46 := Tryz.underlying105
 a46 := Tryz.isAgg105
 z46 := Tryz.sizeOf105
 v46 := Tryz.zeroValue105
 t51 := Tryz.underlying258
 a51 := Tryz.isAgg258
 z51 := Tryz.sizeOf258
 v51 := Tryz.zeroValue258
 t53 := Tryz.underlying260
 a53 := Tryz.isAgg260
 z53 := Tryz.sizeOf260
 v53 := Tryz.zeroValue260
 t171 := Tryz.underlying290
 a171 := Tryz.isAgg290
 z171 := Tryz.sizeOf290
 v171 := Tryz.zeroValue290
 t173 := Tryz.underlying292
 a173 := Tryz.isAgg292
 z173 := Tryz.sizeOf292
 v173 := Tryz.zeroValue292
 t212 := Tryz.underlying308
 a212 := Tryz.isAgg308
 z212 := Tryz.sizeOf308
 v212 := Tryz.zeroValue308
 t213 := Tryz.underlying309
 a213 := Tryz.isAgg309
 z213 := Tryz.sizeOf309
 t232 := Tryz.underlying313
 a232 := Tryz.isAgg313
 z232 := Tryz.sizeOf313
 v232 := Tryz.zeroValue313
 t233 := Tryz.underlying314
 a233 := Tryz.isAgg314
 z233 := Tryz.sizeOf314
 v233 := Tryz.zeroValue314
 g17 := by kernel_rfl
 g18 := by kernel_rfl
 g19 := by kernel_rfl
 i0 := by kernel_rfl
 i2 := by kernel_rfl
 i3 := by kernel_rfl
 i4 := by kernel_rfl
 i5 := by kernel_rfl
 i9 := by kernel_rfl
 i20 := by kernel_rfl
 i37 := by kernel_rfl
 i46 := by kernel_rfl
 i51 := by kernel_rfl
 i53 := by kernel_rfl
 i171 := by kernel_rfl
 i173 := by kernel_rfl
 i212 := by kernel_rfl
 i232 := by kernel_rfl
 i233 := by kernel_rfl
 m17 := by kernel_rfl
 m18 := by kernel_rfl
 m19 := by kernel_rfl }
open Go.RowKit Go.Sort Go.Lib in
theorem Tryz.strconv_Itoa (n : Int) (h0 : -9223372036854775808 <= n) (h1 : n <= 9223372036854775807) (w : World) (htab : Lib.TabIs Tryz.prog w "internal/strconv.uint64pow10" .u64 Lib.pow10Tab) :
  Calls Tryz.prog 151 #[.int .i64 n] w fun e w' => e = .returned (.string ⟨(Lib.itoa n).toArray⟩) /\ ∃ k os, w' = grow (w.drewN k) os := Any.strconv_Itoa Tryz.laysM171 n h0 h1 w htab
end Go.Proofs
namespace Go.Proofs.YtmhophccdfmngaaGreatDoor
open Go.RowKit Go.Shelf Sv
theorem index_none {c : UInt8} : ∀ {l : List UInt8}, c ∉ l -> Lib.index l [c] < 0 := by
 intro l h
 rcases index_byte l c with ⟨h1, _⟩ | ⟨j, _, h2⟩
 ·exact h1
 ·have := List.count_eq_zero.2 h
  omega
theorem index_first {c : UInt8} {y : List UInt8} : ∀ {x : List UInt8}, c ∉ x -> Lib.index (x ++ c :: y) [c] = (x.length : Int) := by
 intro x
 induction x with
 | nil => intro _; unfold Lib.index; simp [List.isPrefixOf]
 | cons b x ih =>
  intro h
  have hb : ¬ c = b := fun e => h (by simp [e])
  have hp : List.isPrefixOf [c] (b :: (x ++ c :: y)) = false := by simp [List.isPrefixOf, hb]
  rw [List.cons_append]
  unfold Lib.index
  rw [hp, ih (fun e => h (by simp [e]))]
  simp
theorem index_none2 {c d : UInt8} : ∀ {l : List UInt8}, c ∉ l -> Lib.index l [c, d] < 0 := by
 intro l
 induction l with
 | nil => intro _; simp [Lib.index]
 | cons b l ih =>
  intro h
  have hb : ¬ c = b := fun e => h (by simp [e])
  have hp : List.isPrefixOf [c, d] (b :: l) = false := by simp [List.isPrefixOf, hb]
  have : Lib.index l [c, d] = -1 := by
   have h1 := Lib.index_ge l [c, d]
   have h2 := ih (fun e => h (by simp [e]))
   omega
  unfold Lib.index
  rw [hp, this]; simp
def ptx (n : Nat) : List UInt8 := Lib.itoa (n : Int)
def okPart (n : Nat) : Bool := (match partF (ptx n) with
 | .ok m => m == n
 | _ => false) && (ptx n).all (fun x => decide (48 <= x) && decide (x <= 57)) && !(ptx n).isEmpty && decide ((ptx n).length <= 3)
theorem okParts : ∀ n : Fin 1000, okPart n.val = true := by decide +kernel
structure PartOk (n : Nat) : Prop where
 tells : partF (ptx n) = .ok n
 digit : ∀ x ∈ ptx n, 48 <= x /\ x <= 57
 some : ptx n ≠ []
 short : (ptx n).length <= 3
theorem ptx_ok {n : Nat} (h : n <= 999) : PartOk n := by
 have h1 := okParts ⟨n, by omega⟩
 unfold okPart at h1
 simp only [Bool.and_eq_true, List.all_eq_true, decide_eq_true_eq, Bool.not_eq_true', List.isEmpty_eq_false_iff] at h1
 obtain ⟨⟨⟨h2, h3⟩, h4⟩, h5⟩ := h1
 refine ⟨?_, h3, h4, h5⟩
 split at h2
 ·rename_i m hm; rw [hm]; simp only [beq_iff_eq] at h2; rw [h2]
 ·cases h2
theorem PartOk.not {n : Nat} (h : PartOk n) {c : UInt8} (hc : c < 48 \/ 57 < c) : c ∉ ptx n := fun e => by
 have := h.digit c e
 rcases hc with hc | hc
 ·exact absurd hc (UInt8.not_lt.2 this.1)
 ·exact absurd hc (UInt8.not_lt.2 this.2)
def vtx (a b c : Nat) : List UInt8 := ptx a ++ 46 :: (ptx b ++ 46 :: ptx c)
theorem bytes_of {s : ByteArray} {l : List UInt8} (h : s.data.toList = l) : s = ⟨l.toArray⟩ := by
 obtain ⟨d⟩ := s
 subst h
 simp
theorem ext_list (l : List UInt8) (i j : Nat) : ((⟨l.toArray⟩ : ByteArray).extract i j).data.toList = (l.take j).drop i := by
 rw [ByteArray.data_extract]; simp [List.take_drop]
 rcases Nat.le_total i j with h | h
 ·rw [Nat.add_sub_cancel' h]
 ·rw [List.drop_of_length_le (by simp; omega), List.drop_of_length_le (by simp; omega)]
theorem vers_tells {a b c : Nat} (ha : a <= 999) (hb : b <= 999) (hc : c <= 999) : versF ⟨(vtx a b c).toArray⟩ = .ok [a, b, c] := by
 have pa := ptx_ok ha
 have pb := ptx_ok hb
 have pc := ptx_ok hc
 have na := pa.not (c := 46) (.inl (by decide))
 have nb := pb.not (c := 46) (.inl (by decide))
 have nc := pc.not (c := 46) (.inl (by decide))
 have hcnt : (vtx a b c).count 46 = 2 := by
  unfold vtx
  simp [List.count_append, List.count_eq_zero.2 na, List.count_eq_zero.2 nb, List.count_eq_zero.2 nc]
 have hsz : (⟨(vtx a b c).toArray⟩ : ByteArray).size = (ptx a).length + ((ptx b).length + ((ptx c).length + 1) + 1) := by
  show (vtx a b c).toArray.size = _
  simp [vtx]
  try omega
 have e0 : ((⟨(vtx a b c).toArray⟩ : ByteArray).extract 0 (⟨(vtx a b c).toArray⟩ : ByteArray).size).data.toList = ptx a ++ 46 :: (ptx b ++ 46 :: ptx c) := by rw [Lib.extract_to_end]; simp [vtx]
 have e1 : ((⟨(vtx a b c).toArray⟩ : ByteArray).extract (0 + (ptx a).length + 1) (⟨(vtx a b c).toArray⟩ : ByteArray).size).data.toList = ptx b ++ 46 :: ptx c := by
  rw [Lib.extract_to_end]
  show (vtx a b c).drop _ = _
  unfold vtx
  rw [show 0 + (ptx a).length + 1 = (ptx a).length + 1 by omega, List.drop_append]
  simp
 have e2 : ((⟨(vtx a b c).toArray⟩ : ByteArray).extract (0 + (ptx a).length + 1 + (ptx b).length + 1) (⟨(vtx a b c).toArray⟩ : ByteArray).size).data.toList = ptx c := by
  rw [Lib.extract_to_end]
  show (vtx a b c).drop _ = _
  rw [show vtx a b c = (ptx a ++ 46 :: (ptx b ++ [46])) ++ ptx c by simp [vtx], show 0 + (ptx a).length + 1 + (ptx b).length + 1 = (ptx a ++ 46 :: (ptx b ++ [46])).length by simp; omega, List.drop_left]
 have f0 : ((⟨(vtx a b c).toArray⟩ : ByteArray).extract 0 (0 + (ptx a).length)).data.toList = ptx a := by
  rw [ext_list]; unfold vtx; simp
 have f1 : ((⟨(vtx a b c).toArray⟩ : ByteArray).extract (0 + (ptx a).length + 1) (0 + (ptx a).length + 1 + (ptx b).length)).data.toList = ptx b := by
  rw [ext_list, show vtx a b c = (ptx a ++ [46] ++ ptx b) ++ (46 :: ptx c) by simp [vtx], show 0 + (ptx a).length + 1 + (ptx b).length = (ptx a ++ [46] ++ ptx b).length by simp; omega, List.take_left, show 0 + (ptx a).length + 1 = (ptx a ++ [46]).length by simp, List.drop_left]
 unfold versF
 rw [if_pos hcnt, hsz]
 show partsF (cutB _ _ ((ptx a).length + ((ptx b).length + ((ptx c).length + 1) + 1)) 0) = _
 rw [show (ptx a).length + ((ptx b).length + ((ptx c).length + 1) + 1) = ((ptx a).length + (ptx b).length + (ptx c).length) + 1 + 1 by omega]
 rw [cutB_step (j := (ptx a).length) (by rw [e0]; exact index_first na)]
 rw [cutB_step (j := (ptx b).length) (by rw [show (⟨#[46]⟩ : ByteArray).size = 1 from rfl, e1]; exact index_first nb)]
 rw [show (⟨#[46]⟩ : ByteArray).size = 1 from rfl]
 rw [cutB_end (by rw [e2]; exact index_none nc)]
 simp only [partsF, f0, f1, e2, pa.tells, pb.tells, pc.tells]
def Sign (g : List UInt8) : Prop := ∀ x ∈ g, marksB.data.toList.contains x = true
theorem trim_tells {g : List UInt8} (hg : Sign g) {a b c : Nat} (ha : a <= 999) : trimB ⟨(g ++ vtx a b c).toArray⟩ = ⟨(vtx a b c).toArray⟩ := by
 have pa := ptx_ok ha
 unfold trimB Lib.trimLeftS
 congr 2
 show List.dropWhile _ (g ++ vtx a b c) = _
 rw [List.dropWhile_append_of_pos hg]
 unfold vtx
 cases hp : ptx a with
 | nil => exact absurd hp pa.some
 | cons x r =>
  rw [List.cons_append, List.dropWhile_cons_of_neg]
  have hx := pa.digit x (by rw [hp]; simp)
  intro hm
  have hm' : x ∈ [61, 33, 60, 62, 94, 126] := by simpa [marksB] using hm
  simp only [List.mem_cons, List.not_mem_nil, or_false] at hm'
  rcases hm' with rfl | rfl | rfl | rfl | rfl | rfl <;> revert hx <;> decide
theorem word_tells {g : List UInt8} (hg : Sign g) {a b c : Nat} (ha : a <= 999) (hb : b <= 999) (hc : c <= 999) : wordF ⟨(g ++ vtx a b c).toArray⟩ = signF g a b c := by
 have hd : (46 : UInt8) ∈ g ++ vtx a b c := by simp [vtx]
 have hl : (⟨(g ++ vtx a b c).toArray⟩ : ByteArray).toList = g ++ vtx a b c := by rw [ByteArray.toList_eq]
 unfold wordF
 rw [if_neg (fun e => by rw [hl] at e; rw [e] at hd; revert hd; decide), if_neg (fun e => by rw [hl] at e; rw [e] at hd; revert hd; decide), trim_tells hg ha, vers_tells ha hb hc]
 show signF _ a b c = _
 congr 1
 rw [ByteArray.toList_eq, ext_list]
 show ((g ++ vtx a b c).take ((g ++ vtx a b c).toArray.size - (vtx a b c).toArray.size)).drop 0 = g
 simp
end Go.Proofs.YtmhophccdfmngaaGreatDoor
namespace Go.Proofs.YtmhophccdfmngaaGreatDoor
open Go.RowKit Go.Shelf Sv
theorem itoa_int (n : Int) (hn : -9223372036854775808 <= n /\ n <= 9223372036854775807) (w : World) (hw : Lb w) : Calls Tryz.prog 151 #[.int .i64 n] w fun e w' => e = .returned (.string ⟨(Lib.itoa n).toArray⟩) /\ Below w.heap.size w w' :=
 (Tryz.strconv_Itoa n hn.1 hn.2 w hw.tab).mono fun _ _ ⟨he, k, os, hw'⟩ => ⟨he, hw' ▸ grow_below _ w k os (Nat.le_refl _)⟩
def wtx (a b c : Int) : List UInt8 := Lib.itoa a ++ 46 :: (Lib.itoa b ++ 46 :: Lib.itoa c)
theorem wtext_any (a b c : Int) (ha : -9223372036854775808 <= a /\ a <= 9223372036854775807) (hb : -9223372036854775808 <= b /\ b <= 9223372036854775807) (hc : -9223372036854775808 <= c /\ c <= 9223372036854775807) (w : World) (hw : Lb w) :
  Calls Tryz.prog 119 #[.agg #[.int .i64 a, .int .i64 b, .int .i64 c]] w fun e w' => e = .returned (.string ⟨(wtx a b c).toArray⟩) /\ Below w.heap.size w w' := by
 have HA : Hid (∀ W, Below w.heap.size w W -> Calls Tryz.prog 151 #[.int .i64 a] W fun e w' => e = .returned (.string ⟨(Lib.itoa a).toArray⟩) /\ Below W.heap.size W w') := fun W h => itoa_int a ha W (hw.below h)
 have HB : Hid (∀ W, Below w.heap.size w W -> Calls Tryz.prog 151 #[.int .i64 b] W fun e w' => e = .returned (.string ⟨(Lib.itoa b).toArray⟩) /\ Below W.heap.size W w') := fun W h => itoa_int b hb W (hw.below h)
 have HC : Hid (∀ W, Below w.heap.size w W -> Calls Tryz.prog 151 #[.int .i64 c] W fun e w' => e = .returned (.string ⟨(Lib.itoa c).toArray⟩) /\ Below W.heap.size W w') := fun W h => itoa_int c hc W (hw.below h)
 have kv := Blk.new w 42 #[.int .i64 a, .int .i64 b, .int .i64 c]
 have hB0 : Below w.heap.size w (w.alloc (.cells #[.int .i64 a, .int .i64 b, .int .i64 c] 42)) := (Below.refl _ w).alloc (Nat.le_refl _) _
 have la := Lib.itoa_length_le a ha.1 ha.2
 have lb := Lib.itoa_length_le b hb.1 hb.2
 have lc := Lib.itoa_length_le c hc.1 hc.2
 have HV : Hid (wtx a b c = Lib.itoa a ++ 46 :: (Lib.itoa b ++ 46 :: Lib.itoa c)) := rfl
 generalize wtx a b c = V at *
 generalize Lib.itoa a = A at *
 generalize Lib.itoa b = B at *
 generalize Lib.itoa c = C at *
 have q1 : ¬ 9223372036854775807 < A.length + 1 := by omega
 have q2 : ¬ 9223372036854775807 < A.length + 1 + B.length := by omega
 have q3 : ¬ 9223372036854775807 < A.length + 1 + B.length + 1 := by omega
 have q4 : ¬ 9223372036854775807 < A.length + 1 + B.length + 1 + C.length := by omega
 have HQ : Hid ((⟨A.toArray⟩ : ByteArray) ++ ⟨#[46]⟩ ++ ⟨B.toArray⟩ ++ ⟨#[46]⟩ ++ ⟨C.toArray⟩ = ⟨V.toArray⟩) := bytes_of (by rw [HV.out]; simp [ByteArray.data_append])
 clear hw ha hb hc HV la lb lc
 go_enter Tryz.func119, Tryz.ntmps119
 go_wp2_with fail
 generalize w.alloc (.cells #[.int .i64 a, .int .i64 b, .int .i64 c] 42) = W0 at *
 have SC : Hid (∀ W, Below W0.heap.size W0 W -> W.cell? ⟨w.heap.size, 0, none⟩ = some (.int .i64 a) /\ W.cell? ⟨w.heap.size, 1, none⟩ = some (.int .i64 b) /\ W.cell? ⟨w.heap.size, 2, none⟩ = some (.int .i64 c)) := fun W hb => ⟨(kv.below hb kv.lt).cell 0, (kv.below hb kv.lt).cell 1, (kv.below hb kv.lt).cell 2⟩
 have HB0 := Lib.hid hB0
 have D0 : Below W0.heap.size W0 W0.drew := (Below.refl _ _).drew
 have E0 : Below w.heap.size w W0.drew := HB0.out.drew
 clear kv hB0
 go_region_held3 (fun w' => w'.cell? ⟨w.heap.size, 0, none⟩ = some (.int .i64 a) /\ w'.cell? ⟨w.heap.size, 1, none⟩ = some (.int .i64 b) /\ w'.cell? ⟨w.heap.size, 2, none⟩ = some (.int .i64 c)) (first | exact SC.out _ D0 | exact SC.out _ D1 | exact SC.out _ D2 | exact SC.out _ D3)
  (first
   | ((with_reducible refine (HA.out _ E0).mono ?_); rintro e w1 ⟨rfl, hb1⟩; have D1 : Below W0.heap.size W0 w1 := D0.trans (hb1.mono D0.size); have E1 : Below w.heap.size w w1 := E0.trans (hb1.mono E0.size); clear HA D0 E0 hb1)
   | ((with_reducible refine (HB.out _ E1).mono ?_); rintro e w2 ⟨rfl, hb2⟩; have D2 : Below W0.heap.size W0 w2 := D1.trans (hb2.mono D1.size); have E2 : Below w.heap.size w w2 := E1.trans (hb2.mono E1.size); clear HB D1 E1 hb2)
   | ((with_reducible refine (HC.out _ E2).mono ?_); rintro e w3 ⟨rfl, hb3⟩; have D3 : Below W0.heap.size W0 w3 := D2.trans (hb3.mono D2.size); have E3 : Below w.heap.size w w3 := E2.trans (hb3.mono E2.size); clear HC D2 E2 hb3))
 have HE := Lib.hid E3
 clear D3 E3
 go_wp2
 go_ret
 exact ⟨by rw [<- HQ.out]; rfl, HE.out⟩
end Go.Proofs.YtmhophccdfmngaaGreatDoor
