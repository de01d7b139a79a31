/- Texts cut at a byte. Plain: no memory. -/
import Derived.Test.YtcjjekhecjmaeaaGreatDoorArTop
import Derived.Test.YtcjjekhecjmaeaaGreatDoorImParse
import Derived.Lib.Hide
import Derived.Shelf.LaysM
import Derived.Shelf.LaysC
import Derived.Shelf.Strings.Split
import Derived.Test.YtcjjekhecjmaeaaGreatDoorProg
import Derived.Lib.Split
import Derived.Lib.CountLaws
import Derived.Lib.IndexBytes
set_option maxHeartbeats 2000000
set_option maxRecDepth 100000
namespace Go.Proofs.YtcjjekhecjmaeaaGreatDoor
open Go.RowKit Go.Maps
def hasB (ns : List Nd) (h : Int) : Bool := decide (h = 0) || decide (h = 1) || decide (topOf ns h < 24)
section
variable {B b bm : Nat} {w : World} {v : Value} {ns : List Nd} {L : List (Nd × Int)} {room next : Int}
theorem has_any (hA : ArenaAt B w b bm v ns L room next) (h : Int) (hi : I64 h) (hl : ns.length <= 1000000) :
  Calls Tryz.prog 46 #[.pointer (some ⟨b, 0, none⟩), .int .i64 h] w fun e w' => e = .returned (.bool (hasB ns h)) /\ w = w' := by
 have HT := Lib.hid (top_any hA h hi hl)
 clear hA hl
 unfold hasB
 generalize topOf ns h = t at *
 by_cases h0 : h = 0
 ·subst h0
  go_enter Tryz.func46, Tryz.ntmps46
  go_wp2
  go_ret
  exact ⟨rfl, rfl⟩
 ·by_cases h1 : h = 1
  ·subst h1
   go_enter Tryz.func46, Tryz.ntmps46
   go_wp2
   go_ret
   exact ⟨rfl, rfl⟩
  ·have e0 : (h == 0) = false := by rw [beq_eq_false_iff_ne]; exact h0
   have e1 : (h == 1) = false := by rw [beq_eq_false_iff_ne]; exact h1
   have d0 : decide (h = 0) = false := decide_eq_false h0
   have d1 : decide (h = 1) = false := decide_eq_false h1
   rw [d0, d1, Bool.false_or, Bool.false_or]
   clear h0 h1 d0 d1
   go_enter Tryz.func46, Tryz.ntmps46
   go_wp2_with fail
   refine HT.out.mono ?_
   rintro e w1 ⟨rfl, rfl⟩
   go_wp2
   go_ret
   exact ⟨rfl, rfl⟩
def getOf (ns : List Nd) (h : Int) : Nd := if topOf ns h = 24 then ⟨0, 0, 0⟩ else nd ns (h - 2).toNat
theorem cell3 (w : World) (A B C : Value) (t : TypeId) : (w.alloc (.cells #[A, B, C] t)).cell? ⟨w.heap.size, 0, none⟩ = some A /\ (w.alloc (.cells #[A, B, C] t)).cell? ⟨w.heap.size, 1, none⟩ = some B /\ (w.alloc (.cells #[A, B, C] t)).cell? ⟨w.heap.size, 2, none⟩ = some C /\ (∀ i, (w.alloc (.cells #[A, B, C] t)).frozen? ⟨w.heap.size, i, none⟩ = false) := ⟨by simp, by simp, by simp, fun i => by simp⟩
theorem below_new (w : World) (o : Obj) : Below w.heap.size w (w.alloc o) := (Below.refl _ _).alloc (Nat.le_refl _) _
theorem get_any (hA : ArenaAt B w b bm v ns L room next) (h : Int) (hi : I64 h) (hl : ns.length <= 1000000) :
  Calls Tryz.prog 59 #[.pointer (some ⟨b, 0, none⟩), .int .i64 h] w fun e w' => e = .returned (.tuple #[(getOf ns h).val, .bool (decide (topOf ns h ≠ 24))]) /\ Below w.heap.size w w' := by
 have hA1 := hA.kept (Kept.alloc (fun _ => False) w (.cells #[.int .i64 0, .int .i64 0, .int .i64 0] 102)) (fun _ _ h => h)
 have HT := Lib.hid (top_any hA1 h hi hl)
 have hlt := hA.lt
 clear hA
 obtain ⟨hi0, hi1⟩ := hi
 obtain ⟨c0, c1, c2, fz⟩ := cell3 w (.int .i64 0) (.int .i64 0) (.int .i64 0) 102
 have f0 := fz 0
 have f1 := fz 1
 have f2 := fz 2
 have hbn := below_new w (.cells #[.int .i64 0, .int .i64 0, .int .i64 0] 102)
 clear fz
 unfold getOf
 by_cases ht : topOf ns h = 24
 ·rw [if_pos ht, decide_eq_false (by simp [ht])]
  rw [ht] at HT
  clear ht hA1
  go_enter Tryz.func59, Tryz.ntmps59
  go_wp2_with fail
  refine HT.out.mono ?_
  rintro e w1 ⟨rfl, rfl⟩
  clear HT
  go_wp2
  refine bodyPost_ret (v := .tuple #[.agg #[.int .i64 0, .int .i64 0, .int .i64 0], .bool false]) (by simp [results, Tryz.results59, go_sem]) rfl ?_
  refine ⟨rfl, ?_⟩
  exact below_new w _
 ·rw [if_neg ht, decide_eq_true (by simp [ht])]
  have hc : 2 <= h /\ h < 2 + (ns.length : Int) := by
   unfold topOf at ht
   by_cases hc : 2 <= h /\ h < 2 + (ns.length : Int)
   ·exact hc
   ·rw [if_neg hc] at ht; exact absurd rfl ht
  obtain ⟨h2, h3⟩ := hc
  obtain ⟨i, e2⟩ : ∃ i : Nat, h - 2 = (i : Int) := ⟨(h - 2).toNat, by omega⟩
  have e1 : (h - 2).toNat = i := by omega
  obtain ⟨a, cap, rfl, hg⟩ := hA1.form
  obtain ⟨g, rfl, hBg, hgl⟩ := hg (by omega)
  have hil : i < ns.length := by omega
  have ca := hA1.row.cellAt (i * 3) (by omega)
  have cb := hA1.row.cellAt (i * 3 + 1) (by omega)
  have cc := hA1.row.cellAt (i * 3 + 2) (by omega)
  have cn := hA1.cnodes
  obtain ⟨n1, n2, n3⟩ := ncells_at ns i hil
  rw [n1] at ca
  rw [n2] at cb
  rw [n3] at cc
  rw [e1]
  have et : (topOf ns h == 24) = false := by rw [beq_eq_false_iff_ne]; exact ht
  generalize topOf ns h = tt at *
  generalize nd ns i = n at *
  clear n1 n2 n3 hA1 e1 ht
  go_enter Tryz.func59, Tryz.ntmps59
  go_wp2_with fail
  refine HT.out.mono ?_
  rintro e w1 ⟨rfl, rfl⟩
  clear HT
  go_wp2
  refine bodyPost_ret (v := .tuple #[n.val, .bool true]) (by simp [results, Tryz.results59, go_sem, Nd.val]) rfl ?_
  refine ⟨rfl, ?_⟩
  exact below_new w _
theorem len_any (hA : ArenaAt B w b bm v ns L room next) :
  Calls Tryz.prog 24 #[.pointer (some ⟨b, 0, none⟩)] w fun e w' => e = .returned (.int .i64 (L.length : Int)) /\ w = w' := by
 obtain ⟨D, hD, hR⟩ := hA.hmap
 have cm := hA.cmap
 have hs : (Maps.size D : Int) = (L.length : Int) := by rw [hR.size]
 clear hA hR
 go_enter Tryz.func24, Tryz.ntmps24
 go_wp2_with (at_len; refine wpList_len_own _ rfl _ 124 rfl 102 3 Tryz.underlying124 _ bm _ D rfl hD ?_)
 go_ret
 exact ⟨by rw [<- hs]; rfl, rfl⟩
end
end Go.Proofs.YtcjjekhecjmaeaaGreatDoor
namespace Go.Proofs.YtcjjekhecjmaeaaGreatDoor
open Go.RowKit Num Go.Sort Go.PlainAid
open Classical in
noncomputable def numF (s : ByteArray) : Option Nat := if OkText s /\ s.size <= 100 /\ pre s s.size <= 9223372036854775807 then some (pre s s.size) else none
def optV : Option Nat -> Value
 | none => .tuple #[.int .i64 0, .bool false]
 | some n => .tuple #[.int .i64 (n : Int), .bool true]
theorem numF_le {s : ByteArray} {n : Nat} (h : numF s = some n) : n <= 9223372036854775807 /\ 0 < s.size := by
 unfold numF at h
 split at h
 ·rename_i h1
  cases h
  exact ⟨h1.2.2, h1.1.pos⟩
 ·cases h
theorem number_any (s : ByteArray) (w : World) (hs : s.size <= 100000) : Calls Tryz.prog 134 #[.string s] w fun e w' => e = .returned (optV (numF s)) /\ Below w.heap.size w w' := by
 by_cases hok : OkText s
 ·by_cases h1 : s.size <= 100
  ·have HP := Lib.hid (parse_ok s w h1 hok)
   have HE : Hid ((pre s s.size <= 9223372036854775807 -> numF s = some (pre s s.size)) /\ (9223372036854775807 < pre s s.size -> numF s = none)) := ⟨fun h => by unfold numF; rw [if_pos ⟨hok, h1, h⟩], fun h => by unfold numF; rw [if_neg (fun e => by have := e.2.2; omega)]⟩
   clear hok
   generalize numF s = F at *
   generalize pre s s.size = p at *
   go_enter Tryz.func134, Tryz.ntmps134
   go_wp2_with fail
   refine HP.out.mono ?_
   rintro e w1 ⟨v, rfl, ds, hd, hn, hv, hl, hb⟩
   obtain ⟨a2, c2, rfl, -, -⟩ := id hd
   have HF : Hid (∀ W, Below w1.heap.size w1 W -> Calls Tryz.prog 161 #[.agg #[.slice a2 ds.length c2]] W fun e w' => e = .returned (optV F) /\ Below W.heap.size W w') := fun W hW => (fits_any _ ds W (hd.below hW) hn.small (by omega)).mono fun e w' ⟨h3, h4, h5⟩ => ⟨by
    rw [hv] at h3 h4
    by_cases h : p <= 9223372036854775807
    ·rw [HE.out.1 h]; exact h3 h
    ·rw [HE.out.2 (by omega)]; exact h4 (by omega), h5⟩
   have HB := Lib.hid hb
   have HB2 := Lib.hid (below_new w1 (.cells #[.slice a2 ds.length c2] 30))
   clear HP HE hd hn hv hl hb
   generalize ds.length = n at *
   go_wp2_with fail
   refine (HF.out _ HB2.out).mono ?_
   rintro e w2 ⟨rfl, hb2⟩
   have HB3 : Hid (Below w.heap.size w w2) := HB.out.trans (((HB2.out).trans (hb2.mono HB2.out.size)).mono HB.out.size)
   clear HF HB HB2 hb2
   cases F with
   | none =>
    unfold optV
    go_wp2
    go_ret2
    exact ⟨rfl, HB3.out⟩
   | some x =>
    unfold optV
    go_wp2
    go_ret2
    exact ⟨rfl, HB3.out⟩
  ·have HP := Lib.hid (parse_limit s w hs hok (by omega))
   have e : numF s = none := by unfold numF; rw [if_neg (fun e => h1 e.2.1)]
   rw [e]
   clear hok e
   unfold optV
   go_enter Tryz.func134, Tryz.ntmps134
   go_wp2_with fail
   refine HP.out.mono ?_
   rintro e w1 ⟨rfl, hb⟩
   have HB : Hid (Below w.heap.size w (w1.alloc (.cells #[.slice none 0 0] 30))) := hb.trans ((below_new w1 _).mono hb.size)
   clear HP hb
   go_wp2
   go_ret2
   exact ⟨rfl, HB.out⟩
 ·have HP := Lib.hid (parse_form s w hs hok)
  have e : numF s = none := by unfold numF; rw [if_neg (fun e => hok e.1)]
  rw [e]
  clear hok e
  unfold optV
  go_enter Tryz.func134, Tryz.ntmps134
  go_wp2_with fail
  refine HP.out.mono ?_
  rintro e w1 ⟨rfl, hb⟩
  have HB : Hid (Below w.heap.size w (w1.alloc (.cells #[.slice none 0 0] 30))) := hb.trans ((below_new w1 _).mono hb.size)
  clear HP hb
  go_wp2
  go_ret2
  exact ⟨rfl, HB.out⟩
end Go.Proofs.YtcjjekhecjmaeaaGreatDoor
namespace Go.Proofs
open Go.Shelf
def Tryz.lays146_ren : Go.Shelf.Ren := ⟨fun | 146 => 86 | 221 => 132 | 268 => 156 | 138 => 157 | 143 => 158 | 195 => 166 | 197 => 167 | 218 => 168 | 219 => 169 | 260 => 172 | 217 => 173 | 225 => 174 | 224 => 175 | 267 => 176 | 266 => 177 | 314 => 178 | n => n, fun | 9 => 9 | 31 => 92 | 3 => 3 | 4 => 4 | 0 => 0 | 105 => 238 | 21 => 21 | 5 => 5 | 46 => 65 | 119 => 245 | 139 => 248 | 138 => 247 | 146 => 249 | 51 => 189 | n => n, fun | 1 => 2 | 3 => 5 | 4 => 6 | n => n⟩
theorem Tryz.lays146 : Go.Proofs.Lays.n146 Tryz.prog Tryz.lays146_ren := {
 mixed := by kernel_rfl
 f138 := Tryz.func157.trans (congrArg some (by kernel_rfl))
 f143 := Tryz.func158.trans (congrArg some (by kernel_rfl))
 f146 := Tryz.func86.trans (congrArg some (by kernel_rfl))
 f195 := Tryz.func166.trans (congrArg some (by kernel_rfl))
 f197 := Tryz.func167.trans (congrArg some (by kernel_rfl))
 f217 := Tryz.func173.trans (congrArg some (by kernel_rfl))
 f218 := Tryz.func168.trans (congrArg some (by kernel_rfl))
 f219 := Tryz.func169.trans (congrArg some (by kernel_rfl))
 f221 := Tryz.func132.trans (congrArg some (by kernel_rfl))
 f224 := Tryz.func175.trans (congrArg some (by kernel_rfl))
 f225 := Tryz.func174.trans (congrArg some (by kernel_rfl))
 f260 := Tryz.func172.trans (congrArg some (by kernel_rfl))
 f266 := Tryz.func177.trans (congrArg some (by kernel_rfl))
 f267 := Tryz.func176.trans (congrArg some (by kernel_rfl))
 f268 := Tryz.func156.trans (congrArg some (by kernel_rfl))
 f314 := Tryz.func178.trans (congrArg some (by kernel_rfl))
 t0 := Tryz.underlying0
 a0 := Tryz.isAgg0
 z0 := Tryz.sizeOf0
 v0 := Tryz.zeroValue0
 t3 := Tryz.underlying3
 a3 := Tryz.isAgg3
 z3 := Tryz.sizeOf3
 v3 := Tryz.zeroValue3
 t4 := Tryz.underlying4
 a4 := Tryz.isAgg4
 z4 := Tryz.sizeOf4
 v4 := Tryz.zeroValue4
 t5 := Tryz.underlying5
 a5 := Tryz.isAgg5
 z5 := Tryz.sizeOf5
 v5 := Tryz.zeroValue5
 t9 := Tryz.underlying9
 a9 := Tryz.isAgg9
 z9 := Tryz.sizeOf9
 v9 := Tryz.zeroValue9
 t21 := Tryz.underlying21
 a21 := Tryz.isAgg21
 z21 := Tryz.sizeOf21
 v21 := Tryz.zeroValue21
 t31 := Tryz.underlying92
 a31 := Tryz.isAgg92
 z31 := Tryz.sizeOf92
 v31 := Tryz.zeroValue92
 t46 := Tryz.underlying65
 a46 := Tryz.isAgg65
 z46 := Tryz.sizeOf65
 v46 := Tryz.zeroValue65
 t51 := Tryz.underlying189
 a51 := Tryz.isAgg189
 z51 := Tryz.sizeOf189
 v51 := Tryz.zeroValue189
 t105 := Tryz.underlying238
 a105 := Tryz.isAgg238
 z105 := Tryz.sizeOf238
 v105 := Tryz.zeroValue238
 t119 := Tryz.underlying245
 a119 := Tryz.isAgg245
 z119 := Tryz.sizeOf245
 t138 := Tryz.underlying247
 a138 := Tryz.isAgg247
 z138 := Tryz.sizeOf247
 v138 := Tryz.zeroValue247
 t139 := Tryz.underlying248
 a139 := Tryz.isAgg248
 z139 := Tryz.sizeOf248
 v139 := Tryz.zeroValue248
 t146 := Tryz.underlying249
 a146 := Tryz.isAgg249
 z146 := Tryz.sizeOf249
 v146 := Tryz.zeroValue249
 g1 := by kernel_rfl
 g3 := by kernel_rfl
 g4 := by kernel_rfl }
open Go.RowKit Go.Lib in
theorem Tryz.strings_Split (s sep : ByteArray) (m : Int) (w : World) (hs : s.size < 4294967281) (hm : w.cell? ⟨2, 0, none⟩ = some (.int .i64 m)) (h1 : 1 <= sep.size) :
  Calls Tryz.prog 86 #[.string s, .string sep] w fun e w' =>
   e = .returned (.slice (some ⟨w.heap.size, 0, none⟩) (Lib.countB s sep + 1) (Lib.countB s sep + 1)) /\ w' = w.alloc (.cells ((Lib.splitB sep 0 (Lib.countB s sep) s).map Value.string).toArray 9) := Any.strings_Split Tryz.lays146 (by kernel_rfl) s sep m w hs hm h1
end Go.Proofs
namespace Go.Proofs.YtcjjekhecjmaeaaGreatDoor
def splitL (c : UInt8) : List UInt8 -> List (List UInt8)
 | [] => [[]]
 | x :: r => if x = c then [] :: splitL c r else match splitL c r with
  | [] => [[x]]
  | p :: ps => (x :: p) :: ps
theorem splitL_ne (c : UInt8) (l : List UInt8) : splitL c l ≠ [] := by
 cases l with
 | nil => simp [splitL]
 | cons x r =>
  unfold splitL
  split
  ·simp
  ·split <;> simp
theorem splitL_none {c : UInt8} : ∀ {l : List UInt8}, c ∉ l -> splitL c l = [l]
 | [], _ => rfl
 | x :: r, h => by
  have h1 : x ≠ c := fun e => h (by rw [e]; exact List.mem_cons_self ..)
  have h2 := splitL_none (c := c) (l := r) (fun hm => h (List.mem_cons_of_mem _ hm))
  unfold splitL
  rw [if_neg h1, h2]
theorem splitL_app {c : UInt8} : ∀ {a : List UInt8} (r : List UInt8), c ∉ a -> splitL c (a ++ c :: r) = a :: splitL c r
 | [], r, _ => by rw [List.nil_append, splitL, if_pos rfl]
 | x :: a, r, h => by
  have h1 : x ≠ c := fun e => h (by rw [e]; exact List.mem_cons_self ..)
  have h2 := splitL_app (c := c) (a := a) r (fun hm => h (List.mem_cons_of_mem _ hm))
  rw [List.cons_append, splitL, if_neg h1, h2]
theorem splitL_len (c : UInt8) : ∀ (l : List UInt8), (splitL c l).length = l.count c + 1
 | [] => rfl
 | x :: r => by
  have ih := splitL_len c r
  unfold splitL
  by_cases h : x = c
  ·rw [if_pos h, h, List.length_cons, ih, List.count_cons_self]
  ·rw [if_neg h, List.count_cons_of_ne (by simpa using h), <- ih]
   cases e : splitL c r with
   | nil => exact absurd e (splitL_ne c r)
   | cons p ps => rfl
theorem splitL_sum (c : UInt8) : ∀ (l : List UInt8), ((splitL c l).map (fun p => p.length + 1)).sum = l.length + 1
 | [] => rfl
 | x :: r => by
  have ih := splitL_sum c r
  unfold splitL
  by_cases h : x = c
  ·rw [if_pos h, List.map_cons, List.sum_cons, ih]; simp; omega
  ·rw [if_neg h]
   cases e : splitL c r with
   | nil => exact absurd e (splitL_ne c r)
   | cons p ps =>
    rw [e] at ih
    simp only [List.map_cons, List.sum_cons, List.length_cons] at ih ⊢
    omega
theorem index_cut (c : UInt8) : ∀ (l : List UInt8), (Lib.index l [c] = -1 /\ c ∉ l) \/ ∃ j : Nat, Lib.index l [c] = (j : Int) /\ c ∉ l.take j /\ l = l.take j ++ c :: l.drop (j + 1) := by
 intro l
 induction l with
 | nil => exact .inl ⟨by simp [Lib.index], by simp⟩
 | cons b l ih =>
  by_cases h : c = b
  ·subst h
   refine .inr ⟨0, ?_, by simp, by simp⟩
   unfold Lib.index
   simp [List.isPrefixOf]
  ·have hp : List.isPrefixOf [c] (b :: l) = false := by simp [List.isPrefixOf, h]
   rcases ih with ⟨h1, h2⟩ | ⟨j, h1, h2, h3⟩
   ·refine .inl ⟨?_, by simp [h, h2]⟩
    unfold Lib.index
    rw [hp, h1]; simp
   ·refine .inr ⟨j + 1, ?_, by simp [h, h2], by simpa using h3⟩
    unfold Lib.index
    rw [hp, h1]
    simp
theorem splitK_L (c : UInt8) : ∀ (n : Nat) (l : List UInt8), l.length <= n -> Lib.splitK [c] 0 (Lib.count l [c]) l = splitL c l := by
 intro n
 induction n with
 | zero =>
  intro l h
  have : l = [] := List.eq_nil_of_length_eq_zero (by omega)
  subst this
  rw [Lib.count_miss (by simp [Lib.index])]; rfl
 | succ n ih =>
  intro l h
  rcases index_cut c l with ⟨h1, h2⟩ | ⟨j, h1, h2, h3⟩
  ·rw [Lib.count_miss h1, splitL_none h2]; rfl
  ·rw [Lib.count_hit (by simp) h1, Nat.add_comm 1, Lib.splitK, if_neg (by rw [h1]; simp), h1]
   simp only [Int.toNat_natCast, Nat.add_zero, List.length_cons, List.length_nil, Nat.zero_add]
   have hl := congrArg List.length h3
   simp only [List.length_append, List.length_take, List.length_cons, List.length_drop] at hl
   rw [ih _ (by rw [List.length_drop]; omega)]
   conv => rhs; rw [h3]
   rw [splitL_app _ h2]
theorem splitB_L (c : UInt8) (s : ByteArray) : Lib.splitB ⟨#[c]⟩ 0 (Lib.countB s ⟨#[c]⟩) s = (splitL c s.data.toList).map (fun l => ⟨l.toArray⟩) := by
 have h := Lib.splitB_data ⟨#[c]⟩ 0 (Lib.countB s ⟨#[c]⟩) s
 have e : (⟨#[c]⟩ : ByteArray).data.toList = [c] := rfl
 rw [e] at h
 have h2 : Lib.countB s ⟨#[c]⟩ = Lib.count s.data.toList [c] := rfl
 rw [h2, splitK_L c _ _ (Nat.le_refl _)] at h
 rw [<- h, List.map_map]
 have : ((fun l : List UInt8 => (⟨l.toArray⟩ : ByteArray)) ∘ fun x : ByteArray => x.data.toList) = id := by
  funext x; simp
 rw [h2, this, List.map_id]
end Go.Proofs.YtcjjekhecjmaeaaGreatDoor
