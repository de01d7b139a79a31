/- Turning places: rising ones are told by what is in them; what a rule makes of two. -/
import Derived.Test.YtpmpnbbihmgdpaaGreatDoorPlSingle
import Derived.Test.YtpmpnbbihmgdpaaGreatDoorPlSmall
import Derived.Test.YtpmpnbbihmgdpaaGreatDoorCtAsc
import Derived.Lib.QuietBelow
import Derived.Deep.CutRange
import Derived.Laws.Cover1
import Derived.Shelf.LaysM
import Derived.Shelf.LaysC
import Derived.Shelf.Strings.OnBuilder
import Derived.Shelf.Strings.Split
import Derived.Shelf.Strings.Replace
import Derived.Shelf.Strings.BuilderK
import Derived.Shelf.Small.Strs
import Derived.Shelf.Strconv.Itoa3
import Derived.Shelf.Strconv.Itoa4
import Derived.Test.YtpmpnbbihmgdpaaGreatDoorProg
import Derived.Test.YtpmpnbbihmgdpaaGreatDoorSvHas
import Derived.Lib.Split
import Derived.Lib.CountLaws
import Derived.Test.YtpmpnbbihmgdpaaGreatDoorCtLineB
import Derived.Lib.IndexBytes
import Derived.Test.YtpmpnbbihmgdpaaGreatDoorSvPieces
set_option maxHeartbeats 2000000
set_option maxRecDepth 100000
namespace Go.Proofs.YtpmpnbbihmgdpaaGreatDoor
open Go.RowKit Go.Deep Sv
theorem newF_its {ls : List Ln} {its : List It} (h : newF ls = .ok its) : its.Perm (itsL ls) := by
 unfold newF at h
 split at h
 ·cases h
 ·split at h
  ·cases h
  ·rename_i g hg
   split at h
   ·cases h
   ·cases h
    have hi := gathF_its ls 0 [] g hg
    simp only [List.nil_append] at hi
    exact hi ▸ sortF_perm g
theorem newF_names {ls : List Ln} {its : List It} (h : newF ls = .ok its) : ∀ x ∈ its, x.name.size <= 100000 := fun x hx => by
 have hm := (newF_its h).mem_iff.1 hx
 unfold itsL at hm
 obtain ⟨y, hy, rfl⟩ := List.mem_map.1 hm
 exact (check_names ((newF_ok h).2.2 y (List.mem_filter.1 hy).1)).1
theorem badF_none {its : List It} {ls : List Ln} {set : Nat} (h : ∀ j, j < ls.length -> keepsB its (ls.getD j default) set = true) : badF its ls set = none := by
 unfold badF
 rw [List.findIdx?_eq_none_iff]
 intro x hx
 obtain ⟨j, hj, rfl⟩ := List.getElem_of_mem hx
 have := h j hj
 rw [List.getD_eq_getElem?_getD, List.getElem?_eq_getElem hj] at this
 simpa using this
theorem badF_some {its : List It} {ls : List Ln} {set i : Nat} (hi : i < ls.length) (h : ∀ j, j < i -> keepsB its (ls.getD j default) set = true) (hb : keepsB its (ls.getD i default) set = false) : badF its ls set = some i := by
 unfold badF
 rw [List.findIdx?_eq_some_iff_getElem]
 refine ⟨hi, ?_, fun j hj => ?_⟩
 ·rw [List.getD_eq_getElem?_getD, List.getElem?_eq_getElem hi] at hb
  simpa using hb
 ·have := h j hj
  rw [List.getD_eq_getElem?_getD, List.getElem?_eq_getElem (show j < ls.length by omega)] at this
  simpa using this
theorem lget_mem (ls : List Ln) (i : Nat) (h : i < ls.length) : ls.getD i default ∈ ls := by
 rw [List.getD_eq_getElem?_getD, List.getElem?_eq_getElem h]; exact List.getElem_mem h
theorem fits_c (bk : Nat) (ls : List Ln) (its : List It) (hN : newF ls = .ok its) (set : Nat) (w : World) (h : CatAt w bk ls its) (hs : set < 18446744073709551616) :
  Calls Tryz.prog 31 #[.pointer (some ⟨bk, 0, none⟩), .int .u64 (set : Int)] w fun e w' => e = .returned (.tuple #[.bool (fitsF its ls set).1, .int .i64 (fitsF its ls set).2]) /\ Below w.heap.size w w' := by
 obtain ⟨hl, hll, hck⟩ := newF_ok hN
 have HSI0 := single_c bk ls its set w h hl (newF_names hN)
 cases hsi : singleB its set with
 | false =>
  rw [hsi] at HSI0
  have HSI := Lib.hid HSI0
  have HF : Hid (fitsF its ls set = (false, -2)) := by show _ = _; unfold fitsF; rw [if_pos hsi]
  rw [HF.out]
  clear HSI0 hsi h hck
  go_enter Tryz.func31, Tryz.ntmps31
  go_wp2_with fail
  refine HSI.out.mono ?_
  rintro e w1 ⟨rfl, hb1⟩
  have HB1 := Lib.hid hb1
  clear hb1 HSI
  go_wp2
  go_ret2
  exact ⟨rfl, HB1.out⟩
 | true =>
  rw [hsi] at HSI0
  have HSI := Lib.hid HSI0
  have HF : Hid (fitsF its ls set = fitsG (badF its ls set)) := by show _ = _; unfold fitsF; rw [if_neg (by rw [hsi]; decide)]
  have HCAT := Lib.hid h
  have HKE : Hid (∀ (W : World) (i : Nat) (ra : Option Addr) (rc : Nat) (x : Ln), i < ls.length -> ls.getD i default = x -> Below w.heap.size w W -> SpAt W (.slice ra x.rng.length rc) x.rng -> Rg x.rng -> Calls Tryz.prog 83 #[.pointer (some ⟨bk, 0, none⟩), .agg #[.int .i64 x.kind, .string x.name, .int .i64 x.a, .int .i64 x.b, .int .i64 x.c, .string x.other, .slice ra x.rng.length rc], .int .u64 (set : Int)] W fun e w' => e = .returned (.bool (keepsB its x set)) /\ Below W.heap.size W w') := fun W i ra rc x hi hx hb hsp hr =>
   keeps_c bk ls its hN x (hx ▸ lget_mem ls i hi) ra rc set W (HCAT.out.below hb (Nat.le_refl _)) hsp hr hs
  clear HSI0 hsi h hck hN
  go_enter Tryz.func31, Tryz.ntmps31
  go_wp2_with fail
  refine HSI.out.mono ?_
  rintro e w1 ⟨rfl, hb1⟩
  have HLN := Lib.hid (lines_c bk ls its w1 (HCAT.out.below hb1 (Nat.le_refl _)) (by omega))
  have HB1 := Lib.hid hb1
  clear hb1 HSI
  go_wp2_with fail
  refine HLN.out.mono ?_
  rintro e w2 ⟨lv, rfl, hlv, hb2⟩
  obtain ⟨la, lc, rfl⟩ : ∃ a c, lv = .slice a ls.length c := by obtain ⟨vs', _, h2⟩ := hlv; obtain ⟨a, c, e, _⟩ := h2.form; exact ⟨a, c, e⟩
  have HLV := Lib.hid hlv
  have HB2 : Hid (Below w.heap.size w w2) := HB1.out.trans (hb2.mono HB1.out.size)
  clear hlv hb2 HLN HB1
  go_wp2_with fail
  go_loopw [15] (fun iV wr => ∃ i : Nat, i <= ls.length /\ iV = .int .i64 (i : Int) /\ (∀ j, j < i -> keepsB its (ls.getD j default) set = true) /\ Below w2.heap.size w2 wr) (fun iV _ => ls.length - (intOf iV).toNat)
  case atStart => exact ⟨0, Nat.zero_le _, rfl, fun j hj => by omega, Below.refl _ _⟩
  case round =>
   obtain ⟨i, hil, rfl, hall, hbr⟩ := hrel
   have HALL := Lib.hid hall
   clear hall
   by_cases hlt : i < ls.length
   ·have hii0 : (0 : Int) <= (i : Int) := by omega
    have hii1 : (i : Int) < (ls.length : Int) := by omega
    obtain ⟨g, cap', rv, e, hg, hsp, hrg, c0, c1, c2, c3, c4, c5, c6⟩ := (HLV.out.below hbr (Nat.le_refl _)).at i hlt
    simp at e
    obtain ⟨rfl, rfl⟩ := e
    obtain ⟨x, hxe⟩ : ∃ x, ls.getD i default = x := ⟨_, rfl⟩
    rw [hxe] at hsp hrg c0 c1 c2 c3 c4 c5
    obtain ⟨ra, rc, rfl⟩ := hsp.form
    have hb6 := below_new wr (.cells #[.int .i64 x.kind, .string x.name, .int .i64 x.a, .int .i64 x.b, .int .i64 x.c, .string x.other, .slice ra x.rng.length rc] 98)
    have kx := Blk.new wr 98 #[.int .i64 x.kind, .string x.name, .int .i64 x.a, .int .i64 x.b, .int .i64 x.c, .string x.other, .slice ra x.rng.length rc]
    have HB6 : Hid (Below w2.heap.size w2 (wr.alloc (.cells #[.int .i64 x.kind, .string x.name, .int .i64 x.a, .int .i64 x.b, .int .i64 x.c, .string x.other, .slice ra x.rng.length rc] 98))) := hbr.trans (hb6.mono hbr.size)
    have HK6 := Lib.hid (HKE.out _ i ra rc x hlt hxe (HB2.out.trans (HB6.out.mono HB2.out.size)) (hsp.below hb6 (Nat.le_refl _)) hrg)
    have HXE := Lib.hid hxe
    clear hsp hrg hxe hb6 hbr
    go_upto_region 6 with fail
    generalize wr.alloc (.cells #[.int .i64 x.kind, .string x.name, .int .i64 x.a, .int .i64 x.b, .int .i64 x.c, .string x.other, .slice ra x.rng.length rc] 98) = W6 at *
    generalize wr.heap.size = bx at *
    have x0 : W6.cell? ⟨bx, 0, none⟩ = some (.int .i64 x.kind) := kx.cell 0
    have x1 : W6.cell? ⟨bx, 1, none⟩ = some (.string x.name) := kx.cell 1
    have x2 : W6.cell? ⟨bx, 2, none⟩ = some (.int .i64 x.a) := kx.cell 2
    have x3 : W6.cell? ⟨bx, 3, none⟩ = some (.int .i64 x.b) := kx.cell 3
    have x4 : W6.cell? ⟨bx, 4, none⟩ = some (.int .i64 x.c) := kx.cell 4
    have x5 : W6.cell? ⟨bx, 5, none⟩ = some (.string x.other) := kx.cell 5
    have x6 : W6.cell? ⟨bx, 6, none⟩ = some (.slice ra x.rng.length rc) := kx.cell 6
    clear c0 c1 c2 c3 c4 c5 c6 hg kx
    go_wp2_with fail
    refine HK6.out.mono ?_
    rintro e w7 ⟨rfl, hb7⟩
    have HB7 : Hid (Below w2.heap.size w2 w7) := HB6.out.trans (hb7.mono HB6.out.size)
    clear hb7 HB6 HK6 x0 x1 x2 x3 x4 x5 x6
    cases hk : keepsB its x set with
    | true =>
     have HNX : Hid (∀ j, j < i + 1 -> keepsB its (ls.getD j default) set = true) := fun j hj => by
      rcases Nat.lt_succ_iff_lt_or_eq.1 hj with e | e
      ·exact HALL.out j e
      ·rw [e, HXE.out]; exact hk
     clear hk
     go_wp2
     go_roundw
     case rel => exact ⟨i + 1, hlt, by go_num, HNX.out, HB7.out⟩
     case measure => simp [intOf]; omega
    | false =>
     have HBD : Hid (fitsF its ls set = (false, (i : Int))) := by show _ = _; rw [HF.out, badF_some hlt HALL.out (by rw [HXE.out]; exact hk)]; rfl
     have HB8 : Hid (Below w.heap.size w w7) := HB2.out.trans (HB7.out.mono HB2.out.size)
     clear hk
     go_wp2
     go_ret2
     exact ⟨by rw [HBD.out]; rfl, HB8.out⟩
   ·obtain rfl : i = ls.length := by omega
    have HBD : Hid (fitsF its ls set = (true, -1)) := by show _ = _; rw [HF.out, badF_none HALL.out]; rfl
    have HB8 : Hid (Below w.heap.size w wr) := HB2.out.trans (hbr.mono HB2.out.size)
    clear hbr
    go_wp2
    go_ret2
    exact ⟨by rw [HBD.out]; rfl, HB8.out⟩
end Go.Proofs.YtpmpnbbihmgdpaaGreatDoor
namespace Go.Proofs.YtpmpnbbihmgdpaaGreatDoor
open Sv
theorem cntB_one (x : Nat) : cntB x <= 1 ↔ ∀ i k, i < 24 -> k < 24 -> x.testBit i = true -> x.testBit k = true -> i = k := by
 unfold cntB
 obtain ⟨L, hL⟩ : ∃ L, (List.range 24).filter (fun i => x.testBit i) = L := ⟨_, rfl⟩
 have hm : ∀ i, i ∈ L ↔ i < 24 /\ x.testBit i = true := fun i => by rw [<- hL, List.mem_filter, List.mem_range]
 have hnd : L.Nodup := by rw [<- hL]; exact List.Nodup.sublist List.filter_sublist List.nodup_range
 rw [hL]
 constructor
 ·intro h i k hi hk h1 h2
  have a := (hm i).2 ⟨hi, h1⟩
  have b := (hm k).2 ⟨hk, h2⟩
  match L, h, a, b with
  | [y], _, a, b => rw [List.mem_singleton] at a b; rw [a, b]
  | [], _, a, _ => cases a
  | _ :: _ :: _, h, _, _ => simp at h
 ·intro h
  match L, hm, hnd with
  | [], _, _ => simp
  | [y], _, _ => simp
  | y :: z :: r, hm, hnd =>
   exfalso
   have a := (hm y).1 (by simp)
   have b := (hm z).1 (by simp)
   have := h y z a.1 b.1 a.2 b.2
   subst this
   simp at hnd
theorem newF_inv {ls : List Ln} {its : List It} (h : newF ls = .ok its) : ∀ x ∈ its, InV x.a x.b x.c := fun x hx => by
 have hm := (newF_its h).mem_iff.1 hx
 unfold itsL at hm
 obtain ⟨y, hy, rfl⟩ := List.mem_map.1 hm
 exact check_inv ((newF_ok h).2.2 y (List.mem_filter.1 hy).1)
theorem iget_mem (its : List It) (i : Nat) (h : i < its.length) : its.getD i default ∈ its := by
 rw [List.getD_eq_getElem?_getD, List.getElem?_eq_getElem h]; exact List.getElem_mem h
theorem any_has {x : It} (h : InV x.a x.b x.c) : hasF anyF x := by
 refine ⟨h, ?_⟩
 obtain ⟨⟨a0, a1⟩, ⟨b0, b1⟩, c0, c1⟩ := h
 refine mem_any.2 ?_
 show _ < 1000000000
 unfold numV
 omega
open Classical in
theorem mem_among {its : List It} (ha : Asc its) (name : ByteArray) (rng : List Span) (i : Nat) : i ∈ amongF its name rng ↔ i < its.length /\ (its.getD i default).name = name /\ hasF rng (its.getD i default) := by
 unfold amongF
 rw [List.mem_filter, List.mem_range'_1, decide_eq_true_iff]
 have hb := ctRow_bound its name
 constructor
 ·rintro ⟨h1, h2⟩
  have hi : i < its.length := by omega
  exact ⟨hi, (row_iff ha name i hi).2 (by omega), h2⟩
 ·rintro ⟨hi, hn, h2⟩
  have := (row_iff ha name i hi).1 hn
  exact ⟨by omega, h2⟩
theorem mem_any_among {ls : List Ln} {its : List It} (h : newF ls = .ok its) (name : ByteArray) (i : Nat) : i ∈ amongF its name anyF ↔ i < its.length /\ (its.getD i default).name = name := by
 rw [mem_among (new_asc h).1]
 exact ⟨fun ⟨a, b, _⟩ => ⟨a, b⟩, fun ⟨a, b⟩ => ⟨a, b, any_has (newF_inv h _ (iget_mem its i a))⟩⟩
def SingP (its : List It) (set : Nat) : Prop := set < 2 ^ its.length /\ ∀ i k, i < its.length -> k < its.length -> i ≠ k -> set.testBit i = true -> set.testBit k = true -> (its.getD i default).name ≠ (its.getD k default).name
theorem single_iff {ls : List Ln} {its : List It} (h : newF ls = .ok its) (set : Nat) : singleB its set = true ↔ SingP its set := by
 have hl := (newF_ok h).1
 unfold singleB SingP
 rw [Bool.and_eq_true, decide_eq_true_iff, List.all_eq_true]
 constructor
 ·rintro ⟨h1, h2⟩
  refine ⟨h1, fun i k hi hk hne b1 b2 hn => hne ?_⟩
  have := of_decide_eq_true (h2 _ (iget_mem its i hi))
  rw [cntB_one] at this
  refine this i k (by omega) (by omega) ?_ ?_
  ·rw [Nat.testBit_and, b1, amS_test, decide_eq_true ((mem_any_among h _ i).2 ⟨hi, rfl⟩)]; rfl
  ·rw [Nat.testBit_and, b2, amS_test, decide_eq_true ((mem_any_among h _ k).2 ⟨hk, hn.symm⟩)]; rfl
 ·rintro ⟨h1, h2⟩
  refine ⟨h1, fun x hx => decide_eq_true ?_⟩
  rw [cntB_one]
  intro i k hi hk b1 b2
  rw [Nat.testBit_and, Bool.and_eq_true, amS_test, decide_eq_true_iff, mem_any_among h] at b1 b2
  apply Classical.byContradiction
  intro hne
  exact h2 i k b1.2.1 b2.2.1 hne b1.1 b2.1 (b1.2.2.trans b2.2.2.symm)
def anyIn (set : Nat) (l : List Nat) : Bool := l.any fun k => set.testBit k
theorem am_ne (its : List It) (name : ByteArray) (rng : List Span) (set : Nat) : decide (set &&& amS its name rng ≠ 0) = anyIn set (amongF its name rng) := by
 rw [Bool.eq_iff_iff, decide_eq_true_iff]
 unfold anyIn
 rw [List.any_eq_true]
 constructor
 ·intro h
  apply Classical.byContradiction
  intro hc
  refine h ((and_zero_iff _ _).2 fun i ⟨h1, h2⟩ => hc ⟨i, ?_, h1⟩)
  rw [amS_test] at h2
  exact of_decide_eq_true h2
 ·rintro ⟨k, hk, hb⟩ h
  refine (and_zero_iff _ _).1 h k ⟨hb, ?_⟩
  rw [amS_test, decide_eq_true hk]
theorem am_eq (its : List It) (name : ByteArray) (rng : List Span) (set : Nat) : decide (set &&& amS its name rng = 0) = !anyIn set (amongF its name rng) := by
 rw [<- am_ne, Bool.eq_iff_iff]
 simp
theorem pow_eq (set k : Nat) : decide (set &&& 2 ^ k = 0) = !set.testBit k := by
 have := and_pow_ne set k
 rw [Bool.eq_iff_iff, decide_eq_true_iff]
 cases hb : set.testBit k
 ·rw [hb] at this; simp at this ⊢; exact this
 ·rw [hb] at this; simp at this ⊢; exact this
theorem keeps_is (its : List It) (x : Ln) (set : Nat) : keepsB its x set =
  if x.kind = 4 then anyIn set (amongF its x.name x.rng)
  else if x.kind = 2 then !set.testBit (ownN its x) || anyIn set (amongF its x.other x.rng)
  else if x.kind = 3 then !set.testBit (ownN its x) || !anyIn set (amongF its x.other x.rng)
  else true := by
 unfold keepsB
 rw [am_ne, am_ne, am_eq, pow_eq]
end Go.Proofs.YtpmpnbbihmgdpaaGreatDoor
namespace Go.Proofs.YtpmpnbbihmgdpaaGreatDoor
open Sv
theorem mixedP : Tryz.prog.follows .mixedOrders = true := by kernel_rfl
theorem less_cmp : ∀ a b : List UInt8, Op.bytesLess a b = decide (Lib.compareBytes a b < 0)
 | [], [] => by rfl
 | [], _ :: _ => by rfl
 | _ :: _, [] => by rfl
 | x :: a, y :: b => by
  have ih := less_cmp a b
  unfold Op.bytesLess Lib.compareBytes
  by_cases h1 : x < y
  ·simp [h1]
  ·by_cases h2 : y < x
   ·have h3 : x ≠ y := fun e => by subst e; exact h1 h2
    simp [h1, h2, h3]
   ·have h3 : x = y := u8_eq h1 h2
    subst h3
    simp [ih]
theorem less_names (x y : ByteArray) : Op.bytesLess x.toList y.toList = decide (Lib.compareBytes x.data.toList y.data.toList < 0) := by
 rw [ByteArray.toList_eq, ByteArray.toList_eq]; exact less_cmp _ _
end Go.Proofs.YtpmpnbbihmgdpaaGreatDoor
namespace Go.Proofs.YtpmpnbbihmgdpaaGreatDoor
open Go.RowKit
theorem within_any (n lo hi : Int) (w : World) : Calls Tryz.prog 195 #[.int .i64 n, .int .i64 lo, .int .i64 hi] w fun e w' => e = .returned (.bool (decide (lo <= n /\ n <= hi))) /\ w = w' := by
 by_cases h1 : lo <= n
 ·by_cases h2 : n <= hi
  ·rw [show decide (lo <= n /\ n <= hi) = true by simp [h1, h2]]
   go_enter Tryz.func195, Tryz.ntmps195
   go_wp2
   go_ret
   exact ⟨rfl, rfl⟩
  ·rw [show decide (lo <= n /\ n <= hi) = false by simp [h2]]
   go_enter Tryz.func195, Tryz.ntmps195
   go_wp2
   go_ret
   exact ⟨rfl, rfl⟩
 ·rw [show decide (lo <= n /\ n <= hi) = false by simp [h1]]
  go_enter Tryz.func195, Tryz.ntmps195
  go_wp2
  go_ret
  exact ⟨rfl, rfl⟩
end Go.Proofs.YtpmpnbbihmgdpaaGreatDoor
namespace Go.Proofs
open Go.Shelf
def Tryz.lays137_ren : Go.Shelf.Ren := ⟨fun | 137 => 201 | 217 => 223 | 266 => 249 | n => n, fun | 9 => 9 | 5 => 5 | 3 => 3 | n => n, fun | n => n⟩
theorem Tryz.lays137 : Go.Proofs.Lays.n137 Tryz.prog Tryz.lays137_ren := {
 mixed := by kernel_rfl
 f137 := Tryz.func201.trans (congrArg some (by kernel_rfl))
 f217 := Tryz.func223.trans (congrArg some (by kernel_rfl))
 f266 := Tryz.func249.trans (congrArg some (by kernel_rfl))
 t3 := Tryz.underlying3
 a3 := Tryz.isAgg3
 z3 := Tryz.sizeOf3
 v3 := Tryz.zeroValue3
 t5 := Tryz.underlying5
 a5 := Tryz.isAgg5
 z5 := Tryz.sizeOf5
 v5 := Tryz.zeroValue5
 t9 := Tryz.underlying9
 a9 := Tryz.isAgg9
 z9 := Tryz.sizeOf9
 v9 := Tryz.zeroValue9 }
open Go.RowKit in
theorem Tryz.strings_IndexByte (s : ByteArray) (c : Int) (w : World) :
  Calls Tryz.prog 201 #[.string s, .int .u8 c] w fun e w' => e = .returned (.int .i64 (Lib.indexByte s.data.toList c.toNat.toUInt8)) /\ w' = w := Any.strings_IndexByte Tryz.lays137 s c w
def Tryz.lays146_ren : Go.Shelf.Ren := ⟨fun | 146 => 53 | 221 => 106 | 268 => 160 | 138 => 161 | 143 => 162 | 195 => 205 | 197 => 172 | 218 => 206 | 219 => 207 | 260 => 214 | 217 => 223 | 225 => 224 | 224 => 225 | 267 => 226 | 266 => 249 | 314 => 250 | n => n, fun | 9 => 9 | 31 => 121 | 3 => 3 | 4 => 4 | 0 => 0 | 105 => 289 | 21 => 21 | 5 => 5 | 46 => 69 | 119 => 335 | 139 => 338 | 138 => 337 | 146 => 354 | 51 => 316 | n => n, fun | 1 => 4 | 3 => 5 | 4 => 6 | n => n⟩
theorem Tryz.lays146 : Go.Proofs.Lays.n146 Tryz.prog Tryz.lays146_ren := {
 mixed := by kernel_rfl
 f138 := Tryz.func161.trans (congrArg some (by kernel_rfl))
 f143 := Tryz.func162.trans (congrArg some (by kernel_rfl))
 f146 := Tryz.func53.trans (congrArg some (by kernel_rfl))
 f195 := Tryz.func205.trans (congrArg some (by kernel_rfl))
 f197 := Tryz.func172.trans (congrArg some (by kernel_rfl))
 f217 := Tryz.func223.trans (congrArg some (by kernel_rfl))
 f218 := Tryz.func206.trans (congrArg some (by kernel_rfl))
 f219 := Tryz.func207.trans (congrArg some (by kernel_rfl))
 f221 := Tryz.func106.trans (congrArg some (by kernel_rfl))
 f224 := Tryz.func225.trans (congrArg some (by kernel_rfl))
 f225 := Tryz.func224.trans (congrArg some (by kernel_rfl))
 f260 := Tryz.func214.trans (congrArg some (by kernel_rfl))
 f266 := Tryz.func249.trans (congrArg some (by kernel_rfl))
 f267 := Tryz.func226.trans (congrArg some (by kernel_rfl))
 f268 := Tryz.func160.trans (congrArg some (by kernel_rfl))
 f314 := Tryz.func250.trans (congrArg some (by kernel_rfl))
 t0 := Tryz.underlying0
 a0 := Tryz.isAgg0
 z0 := Tryz.sizeOf0
 v0 := Tryz.zeroValue0
 t3 := Tryz.underlying3
 a3 := Tryz.isAgg3
 z3 := Tryz.sizeOf3
 v3 := Tryz.zeroValue3
 t4 := Tryz.underlying4
 a4 := Tryz.isAgg4
 z4 := Tryz.sizeOf4
 v4 := Tryz.zeroValue4
 t5 := Tryz.underlying5
 a5 := Tryz.isAgg5
 z5 := Tryz.sizeOf5
 v5 := Tryz.zeroValue5
 t9 := Tryz.underlying9
 a9 := Tryz.isAgg9
 z9 := Tryz.sizeOf9
 v9 := Tryz.zeroValue9
 t21 := Tryz.underlying21
 a21 := Tryz.isAgg21
 z21 := Tryz.sizeOf21
 v21 := Tryz.zeroValue21
 t31 := Tryz.underlying121
 a31 := Tryz.isAgg121
 z31 := Tryz.sizeOf121
 v31 := Tryz.zeroValue121
 t46 := Tryz.underlying69
 a46 := Tryz.isAgg69
 z46 := Tryz.sizeOf69
 v46 := Tryz.zeroValue69
 t51 := Tryz.underlying316
 a51 := Tryz.isAgg316
 z51 := Tryz.sizeOf316
 v51 := Tryz.zeroValue316
 t105 := Tryz.underlying289
 a105 := Tryz.isAgg289
 z105 := Tryz.sizeOf289
 v105 := Tryz.zeroValue289
 t119 := Tryz.underlying335
 a119 := Tryz.isAgg335
 z119 := Tryz.sizeOf335
 t138 := Tryz.underlying337
 a138 := Tryz.isAgg337
 z138 := Tryz.sizeOf337
 v138 := Tryz.zeroValue337
 t139 := Tryz.underlying338
 a139 := Tryz.isAgg338
 z139 := Tryz.sizeOf338
 v139 := Tryz.zeroValue338
 t146 := Tryz.underlying354
 a146 := Tryz.isAgg354
 z146 := Tryz.sizeOf354
 v146 := Tryz.zeroValue354
 g1 := by kernel_rfl
 g3 := by kernel_rfl
 g4 := by kernel_rfl }
open Go.RowKit Go.Lib in
theorem Tryz.strings_Split (s sep : ByteArray) (m : Int) (w : World) (hs : s.size < 4294967281) (hm : w.cell? ⟨4, 0, none⟩ = some (.int .i64 m)) (h1 : 1 <= sep.size) :
  Calls Tryz.prog 53 #[.string s, .string sep] w fun e w' =>
   e = .returned (.slice (some ⟨w.heap.size, 0, none⟩) (Lib.countB s sep + 1) (Lib.countB s sep + 1)) /\ w' = w.alloc (.cells ((Lib.splitB sep 0 (Lib.countB s sep) s).map Value.string).toArray 9) := Any.strings_Split Tryz.lays146 (by kernel_rfl) s sep m w hs hm h1
end Go.Proofs
namespace Go.Proofs.YtpmpnbbihmgdpaaGreatDoor
open Go.RowKit Go.Shelf Sv
def ptx (n : Nat) : List UInt8 := Lib.itoa (n : Int)
structure PartOk (n : Nat) : Prop where
 tells : partF (ptx n) = .ok n
 digit : ∀ x ∈ ptx n, 48 <= x /\ x <= 57
 some : ptx n ≠ []
 short : (ptx n).length <= 3
theorem PartOk.not {n : Nat} (h : PartOk n) {c : UInt8} (hc : c < 48 \/ 57 < c) : c ∉ ptx n := fun e => by
 have := h.digit c e
 rcases hc with hc | hc
 ·exact absurd hc (UInt8.not_lt.2 this.1)
 ·exact absurd hc (UInt8.not_lt.2 this.2)
theorem bytes_of {s : ByteArray} {l : List UInt8} (h : s.data.toList = l) : s = ⟨l.toArray⟩ := by
 obtain ⟨d⟩ := s
 subst h
 simp
theorem ext_list (l : List UInt8) (i j : Nat) : ((⟨l.toArray⟩ : ByteArray).extract i j).data.toList = (l.take j).drop i := by
 rw [ByteArray.data_extract]; simp [List.take_drop]
 rcases Nat.le_total i j with h | h
 ·rw [Nat.add_sub_cancel' h]
 ·rw [List.drop_of_length_le (by simp; omega), List.drop_of_length_le (by simp; omega)]
end Go.Proofs.YtpmpnbbihmgdpaaGreatDoor
namespace Go.Proofs.YtpmpnbbihmgdpaaGreatDoor
open Go.RowKit Go.Shelf Sv
theorem ba_ext {s t : ByteArray} (h : s.data.toList = t.data.toList) : s = t := by
 rw [bytes_of h, <- bytes_of (s := t) rfl]
theorem ext_list' (s : ByteArray) (i j : Nat) : (s.extract i j).data.toList = (s.data.toList.take j).drop i := by
 conv => lhs; rw [bytes_of (s := s) rfl]
 exact ext_list _ _ _
theorem sub_head (s : ByteArray) (k j : Nat) (h : k + j <= s.size) : (s.extract k s.size).extract 0 j = s.extract k (k + j) := by
 apply ba_ext
 rw [ext_list', ext_list', ext_list', List.drop_zero, List.take_drop, List.take_take]
 congr 2
 omega
theorem sub_tail (s : ByteArray) (k i : Nat) : (s.extract k s.size).extract i (s.extract k s.size).size = s.extract (k + i) s.size := by
 apply ba_ext
 rw [Lib.extract_to_end, Lib.extract_to_end, Lib.extract_to_end, List.drop_drop]
theorem split_cut (s m : ByteArray) (hm : 1 <= m.size) : ∀ (f k : Nat), s.size <= k + f -> k <= s.size -> Lib.splitB m 0 (Lib.countB (s.extract k s.size) m) (s.extract k s.size) = (cutB s m f k).map (·.2) := by
 intro f
 induction f with
 | zero =>
  intro k h1 h2
  have hz : (s.extract k s.size).size = 0 := by simp; omega
  have hx : Lib.indexB (s.extract k s.size) m = -1 := by
   show Lib.index (s.extract k s.size).data.toList m.data.toList = -1
   have h0 : (s.extract k s.size).data.toList = [] := by rw [Lib.extract_to_end]; exact List.drop_eq_nil_of_le (by simp; omega)
   have hne : m.data.toList ≠ [] := fun e => by
    have : m.data.toList.length = m.size := by simp
    rw [e] at this; simp at this; omega
   rw [h0]
   cases hm' : m.data.toList with
   | nil => exact absurd hm' hne
   | cons a r => simp [Lib.index]
  rw [Lib.splitB_miss _ _ _ _ hx]; rfl
 | succ f ih =>
  intro k h1 h2
  have hge := Lib.index_ge (s.extract k s.size).data.toList m.data.toList
  by_cases hneg : Lib.index (s.extract k s.size).data.toList m.data.toList < 0
  ·have hx : Lib.indexB (s.extract k s.size) m = -1 := by
    show Lib.index (s.extract k s.size).data.toList m.data.toList = -1
    omega
   rw [Lib.splitB_miss _ _ _ _ hx, cutB_end hneg]; rfl
  ·obtain ⟨j, hj⟩ := Int.eq_ofNat_of_zero_le (Int.not_lt.1 hneg)
   have hx : Lib.indexB (s.extract k s.size) m = (j : Int) := hj
   have hr := index_room (s.extract k s.size).data.toList m.data.toList (by rw [hj]; omega)
   rw [hj] at hr
   have hl : (s.extract k s.size).data.toList.length = s.size - k := by rw [Lib.extract_to_end]; simp
   have hml : m.data.toList.length = m.size := by simp
   rw [hl, hml, Int.toNat_natCast] at hr
   rw [Lib.countB_hit _ _ j hm hx, Nat.add_comm 1, Lib.splitB_hit _ _ _ _ j hx, cutB_step hj, List.map_cons, Nat.add_zero, sub_tail, <- Nat.add_assoc, sub_head s k j (by omega), ih _ (by omega) (by omega)]
end Go.Proofs.YtpmpnbbihmgdpaaGreatDoor
namespace Go.Proofs.YtpmpnbbihmgdpaaGreatDoor
open Go.RowKit Go.Shelf Sv
theorem ext_end (s : ByteArray) (k : Nat) : (s.extract k s.size).data.toList = s.data.toList.drop k := by
 rw [ext_list', List.take_of_length_le (by rw [Array.length_toList]; exact Nat.le_refl _)]
end Go.Proofs.YtpmpnbbihmgdpaaGreatDoor
namespace Go.Proofs.YtpmpnbbihmgdpaaGreatDoor
open Go.RowKit Go.Shelf Sv
theorem cutF_none {s : ByteArray} {c : UInt8} (h : Lib.index s.data.toList [c] < 0) : cutF s c = (s, ⟨#[]⟩) := by
 unfold cutF Lib.cut
 rw [if_neg (by omega)]
theorem cutF_at {s : ByteArray} {c : UInt8} {j : Nat} (h : Lib.index s.data.toList [c] = (j : Int)) : cutF s c = (s.extract 0 j, s.extract (j + 1) s.size) := by
 unfold cutF Lib.cut
 rw [if_pos (by omega), h]
 simp only [Int.toNat_natCast, List.length_singleton]
 refine Prod.ext ?_ ?_
 ·exact (bytes_of (by rw [ext_list']; simp)).symm
 ·exact (bytes_of (by rw [ext_end])).symm
theorem rnext_any (s : ByteArray) (w : World) (hs : s.size <= 100000) : Calls Tryz.prog 153 #[.string s] w fun e w' => e = .returned (.tuple #[.string (cutF s 32).1, .string (cutF s 32).2]) /\ Below w.heap.size w w' := by
 have HI : Hid (Calls Tryz.prog 201 #[.string s, .int .u8 32] w fun e w' => e = .returned (.int .i64 (Lib.index s.data.toList [32])) /\ w' = w) := by
  have := Tryz.strings_IndexByte s 32 w
  rw [show (32 : Int).toNat.toUInt8 = 32 from rfl, <- Lib.index_one] at this
  exact this
 by_cases h : Lib.index s.data.toList [32] < 0
 ·rw [cutF_none h]
  generalize Lib.index s.data.toList [32] = K at *
  go_enter Tryz.func153, Tryz.ntmps153
  go_wp2_with fail
  refine HI.out.mono ?_
  rintro e w1 ⟨rfl, hw1⟩
  rw [hw1]
  clear hw1 HI
  go_wp2
  refine bodyPost_ret (v := .tuple #[.string s, .string ⟨#[]⟩]) (by simp [results, Tryz.results153, go_sem]) rfl ?_
  exact ⟨rfl, Below.refl _ _⟩
 ·obtain ⟨j, hj⟩ : ∃ j : Nat, Lib.index s.data.toList [32] = (j : Int) := ⟨(Lib.index s.data.toList [32]).toNat, by omega⟩
  have hroom := index_room s.data.toList [32] (by omega)
  rw [hj] at hroom HI
  have hln : s.data.toList.length = s.size := by simp
  rw [hln] at hroom
  simp only [Int.toNat_natCast, List.length_singleton] at hroom
  rw [cutF_at hj]
  obtain ⟨J1, hJ1⟩ : ∃ J1, j + 1 = J1 := ⟨_, rfl⟩
  rw [hJ1] at hroom ⊢
  have hwr : IntKind.i64.wrap ((j : Int) + 1) = (J1 : Int) := by rw [IntKind.wrap_i64]; omega
  have hj0 : ¬ (j : Int) < 0 := by omega
  have i2 : (j : Int) <= (s.size : Int) := by omega
  have i3 : (J1 : Int) <= (s.size : Int) := by omega
  have hsl := fun W' => run_slice_string_h (P := Tryz.prog) W' 9 s Tryz.underlying9 .i64 (j : Int) (by omega) i2
  have hsl2 := fun W' => run_slice_string_l (P := Tryz.prog) W' 9 s Tryz.underlying9 .i64 (J1 : Int) (by omega) i3
  simp only [Int.toNat_natCast] at hsl hsl2
  clear h hj hln hJ1
  go_enter Tryz.func153, Tryz.ntmps153
  go_wp2_with fail
  refine HI.out.mono ?_
  rintro e w1 ⟨rfl, hw1⟩
  rw [hw1]
  clear hw1 HI
  go_wp2_with fail
  go_big_region
  have HB : Hid (Below w.heap.size w w.drew) := (Below.refl _ _).drew
  go_wp2
  refine bodyPost_ret (v := .tuple #[.string (s.extract 0 j), .string (s.extract J1 s.size)]) (by simp [results, Tryz.results153, go_sem]) rfl ?_
  exact ⟨rfl, HB.out⟩
end Go.Proofs.YtpmpnbbihmgdpaaGreatDoor
namespace Go.Proofs.YtpmpnbbihmgdpaaGreatDoor.Sv
def inP : List Nat -> Nat -> Bool
 | [], _ => false
 | a :: r, n => if a <= n then !inP r n else false
def Up : List Nat -> Prop
 | [] => True
 | a :: r => (∀ x ∈ r, a < x) /\ Up r
def tp : List Span -> List Nat
 | [] => []
 | s :: r => s.1 :: s.2 :: tp r
theorem inP_low {l : List Nat} {n : Nat} (h : ∀ x ∈ l, n < x) : inP l n = false := by
 cases l with
 | nil => rfl
 | cons a r => rw [inP, if_neg (by have := h a List.mem_cons_self; omega)]
theorem up_ext {l m : List Nat} : Up l -> Up m -> (∀ n, inP l n = inP m n) -> l = m := by
 induction l generalizing m with
 | nil =>
  intro _ hm h
  cases m with
  | nil => rfl
  | cons b q =>
   have := h b
   rw [inP, inP, if_pos (Nat.le_refl _), inP_low (fun x hx => hm.1 x hx)] at this
   cases this
 | cons a r ih =>
  intro hl hm h
  cases m with
  | nil =>
   have := h a
   rw [inP, inP, if_pos (Nat.le_refl _), inP_low (fun x hx => hl.1 x hx)] at this
   cases this
  | cons b q =>
   have hab : a = b := by
    rcases Nat.lt_trichotomy a b with hlt | heq | hlt
    ·have := h a
     rw [inP, inP, if_pos (Nat.le_refl _), if_neg (by omega), inP_low (fun x hx => hl.1 x hx)] at this
     cases this
    ·exact heq
    ·have := h b
     rw [inP, inP, if_neg (by omega), if_pos (Nat.le_refl _), inP_low (fun x hx => hm.1 x hx)] at this
     cases this
   subst hab
   rw [ih hl.2 hm.2 fun n => ?_]
   by_cases hn : a <= n
   ·have := h n
    rw [inP, inP, if_pos hn, if_pos hn] at this
    cases hx : inP r n <;> cases hy : inP q n <;> simp_all
   ·rw [inP_low (fun x hx => by have := hl.1 x hx; omega), inP_low (fun x hx => by have := hm.1 x hx; omega)]
theorem tp_ge : ∀ {l : List Span} {lo : Nat}, Canon lo l -> ∀ x ∈ tp l, lo <= x := by
 intro l
 induction l with
 | nil => intro lo _ x hx; cases hx
 | cons s r ih =>
  intro lo h x hx
  obtain ⟨h1, h2, h3, h4⟩ := h
  rw [tp] at hx
  rcases List.mem_cons.1 hx with rfl | hx
  ·exact h1
  ·rcases List.mem_cons.1 hx with rfl | hx
   ·omega
   ·have := ih h4 x hx; omega
theorem tp_up : ∀ {l : List Span} {lo : Nat}, Canon lo l -> Up (tp l) := by
 intro l
 induction l with
 | nil => intro lo _; trivial
 | cons s r ih =>
  intro lo h
  obtain ⟨h1, h2, h3, h4⟩ := h
  refine ⟨fun x hx => ?_, fun x hx => ?_, ih h4⟩
  ·rcases List.mem_cons.1 hx with rfl | hx
   ·exact h2
   ·have := tp_ge h4 x hx; omega
  ·have := tp_ge h4 x hx; omega
theorem tp_in : ∀ {l : List Span} {lo n : Nat}, Canon lo l -> (inP (tp l) n = true ↔ mem l n) := by
 intro l
 induction l with
 | nil => intro lo n _; simp [tp, inP, mem_nil]
 | cons s r ih =>
  intro lo n h
  obtain ⟨h1, h2, h3, h4⟩ := h
  have hr := ih (n := n) h4
  have hg : mem r n -> s.2 + 1 <= n := h4.ge
  rw [tp, inP, inP, mem_cons]
  by_cases a : s.1 <= n
  ·rw [if_pos a]
   by_cases b : s.2 <= n
   ·rw [if_pos b]; simp only [Bool.not_not, hr]
    constructor
    ·exact Or.inr
    ·rintro (⟨_, h⟩ | h)
     ·omega
     ·exact h
   ·rw [if_neg b]; simp only [Bool.not_false, true_iff]; left; omega
  ·rw [if_neg a]; simp only [Bool.false_eq_true, false_iff]
   rintro (⟨h, _⟩ | h)
   ·omega
   ·have := hg h; omega
theorem tp_len (l : List Span) : (tp l).length = l.length * 2 := by
 induction l with
 | nil => rfl
 | cons s r ih => rw [tp, List.length_cons, List.length_cons, ih, List.length_cons]; omega
theorem tp_row {a b : Nat} : tp (rowF a b) = if a < b then [a, b] else [] := by
 unfold rowF; split <;> rfl
def Srt : List Nat -> Prop
 | [] => True
 | a :: r => (∀ x ∈ r, a <= x) /\ Srt r
theorem srt_app {l r : List Nat} : Srt (l ++ r) ↔ Srt l /\ Srt r /\ ∀ x ∈ l, ∀ y ∈ r, x <= y := by
 induction l with
 | nil => simp [Srt]
 | cons a l ih =>
  rw [List.cons_append, Srt, Srt, ih]
  constructor
  ·rintro ⟨h1, h2, h3, h4⟩
   refine ⟨⟨fun x hx => h1 x (List.mem_append_left _ hx), h2⟩, h3, fun x hx y hy => ?_⟩
   rcases List.mem_cons.1 hx with rfl | hx
   ·exact h1 y (List.mem_append_right _ hy)
   ·exact h4 x hx y hy
  ·rintro ⟨⟨h1, h2⟩, h3, h4⟩
   refine ⟨fun x hx => ?_, h2, h3, fun x hx y hy => h4 x (List.mem_cons_of_mem _ hx) y hy⟩
   rcases List.mem_append.1 hx with hx | hx
   ·exact h1 x hx
   ·exact h4 a List.mem_cons_self x hx
def posF (l : List Nat) (n : Nat) : Nat -> Nat
 | 0 => 0
 | k + 1 => if n < l.getD k 0 then posF l n k else k + 1
theorem pos_le (l : List Nat) (n k : Nat) : posF l n k <= k := by
 induction k with
 | zero => exact Nat.le_refl _
 | succ k ih => unfold posF; split <;> omega
def insP (l : List Nat) (n : Nat) : List Nat := l.take (posF l n l.length) ++ n :: l.drop (posF l n l.length)
theorem pos_hi (l : List Nat) (n : Nat) : ∀ k j, posF l n k <= j -> j < k -> n < l.getD j 0 := by
 intro k
 induction k with
 | zero => intro j _ h; omega
 | succ k ih =>
  intro j h1 h2
  unfold posF at h1
  split at h1
  ·rename_i hlt
   by_cases hj : j < k
   ·exact ih j h1 hj
   ·obtain rfl : j = k := by omega
    exact hlt
  ·omega
theorem pos_lo (l : List Nat) (n : Nat) : ∀ k, 0 < posF l n k -> l.getD (posF l n k - 1) 0 <= n := by
 intro k
 induction k with
 | zero => intro h; exact absurd h (by simp [posF])
 | succ k ih =>
  unfold posF
  split
  ·exact ih
  ·rename_i h; intro _; simpa using h
theorem ins_mem {l : List Nat} {n x : Nat} : x ∈ insP l n ↔ x = n \/ x ∈ l := by
 unfold insP
 rw [List.mem_append, List.mem_cons]
 have : x ∈ l ↔ x ∈ l.take (posF l n l.length) \/ x ∈ l.drop (posF l n l.length) := by
  rw [<- List.mem_append, List.take_append_drop]
 rw [this]
 constructor
 ·rintro (h | h | h) <;> simp [h]
 ·rintro (h | h | h) <;> simp [h]
theorem ins_srt {l : List Nat} {n : Nat} (h : Srt l) : Srt (insP l n) := by
 unfold insP
 have hsplit := h
 rw [<- List.take_append_drop (posF l n l.length) l, srt_app] at hsplit
 obtain ⟨h1, h2, h3⟩ := hsplit
 have hp := pos_le l n l.length
 rw [srt_app]
 refine ⟨h1, ⟨fun x hx => ?_, h2⟩, fun x hx y hy => ?_⟩
 ·obtain ⟨i, hi, rfl⟩ := List.getElem_of_mem hx
  rw [List.length_drop] at hi
  have := pos_hi l n l.length (posF l n l.length + i) (by omega) (by omega)
  rw [List.getD_eq_getElem?_getD, List.getElem?_eq_getElem (by omega)] at this
  rw [List.getElem_drop]
  simp at this
  omega
 ·rcases List.mem_cons.1 hy with rfl | hy
  ·by_cases hz : 0 < posF l y l.length
   ·have hlo := pos_lo l y l.length hz
    -- the last one of the first part is not greater, and all of them are not greater than it
    have hlast : l.getD (posF l y l.length - 1) 0 ∈ l.take (posF l y l.length) := by
     rw [List.getD_eq_getElem?_getD, List.getElem?_eq_getElem (by omega)]
     simp only [Option.getD_some]
     exact List.mem_iff_getElem.2 ⟨posF l y l.length - 1, by rw [List.length_take]; omega, by rw [List.getElem_take]⟩
    obtain ⟨i, hi, rfl⟩ := List.getElem_of_mem hx
    rw [List.length_take] at hi
    rw [List.getElem_take]
    have hsr : ∀ (a b : Nat) (hb : b < l.length), (hab : a <= b) -> l[a]'(by omega) <= l[b] := by
     intro a b hb hab
     rcases Nat.lt_or_eq_of_le hab with hlt | rfl
     ·have hs2 := h
      rw [<- List.take_append_drop (a + 1) l, srt_app] at hs2
      refine hs2.2.2 _ ?_ _ ?_
      ·exact List.mem_iff_getElem.2 ⟨a, by rw [List.length_take]; omega, by rw [List.getElem_take]⟩
      ·exact List.mem_iff_getElem.2 ⟨b - (a + 1), by rw [List.length_drop]; omega, by rw [List.getElem_drop]; congr 1; omega⟩
     ·exact Nat.le_refl _
    have := hsr i (posF l y l.length - 1) (by omega) (by omega)
    rw [List.getD_eq_getElem?_getD, List.getElem?_eq_getElem (by omega)] at hlo
    simp only [Option.getD_some] at hlo
    omega
   ·rw [show posF l y l.length = 0 by omega] at hx; simp at hx
  ·exact h3 x hx y hy
def allP (acc : List Nat) (l : List Nat) : List Nat := l.foldl insP acc
theorem allP_srt : ∀ {l acc : List Nat}, Srt acc -> Srt (allP acc l) := by
 intro l
 induction l with
 | nil => intro acc h; exact h
 | cons a r ih => intro acc h; exact ih (acc := insP acc a) (ins_srt h)
theorem allP_mem : ∀ {l acc : List Nat} {x : Nat}, x ∈ allP acc l ↔ x ∈ acc \/ x ∈ l := by
 intro l
 induction l with
 | nil => intro acc x; simp [allP]
 | cons a r ih =>
  intro acc x
  show x ∈ allP (insP acc a) r ↔ _
  rw [ih, ins_mem, List.mem_cons]
  constructor
  ·rintro ((h | h) | h) <;> simp [h]
  ·rintro (h | h | h) <;> simp [h]
def turnsF (f : Nat -> Bool) : Bool -> List Nat -> List Nat
 | _, [] => []
 | is, n :: r => if f n = is then turnsF f is r else n :: turnsF f (f n) r
def lastF (f : Nat -> Bool) : Bool -> List Nat -> Nat -> Bool
 | is, [], _ => is
 | is, n :: r, x => if n <= x then lastF f (f n) r x else is
theorem turns_mem {f : Nat -> Bool} : ∀ {l : List Nat} {is : Bool}, ∀ x ∈ turnsF f is l, x ∈ l := by
 intro l
 induction l with
 | nil => intro is x hx; cases hx
 | cons n r ih =>
  intro is x hx
  unfold turnsF at hx
  split at hx
  ·exact List.mem_cons_of_mem _ (ih x hx)
  ·rcases List.mem_cons.1 hx with rfl | hx
   ·exact List.mem_cons_self
   ·exact List.mem_cons_of_mem _ (ih x hx)
theorem turns_gt {f : Nat -> Bool} {n : Nat} : ∀ {l : List Nat}, Srt l -> (∀ x ∈ l, n <= x) -> ∀ x ∈ turnsF f (f n) l, n < x := by
 intro l
 induction l with
 | nil => intro _ _ x hx; cases hx
 | cons m r ih =>
  intro hs hl x hx
  have hm := hl m List.mem_cons_self
  unfold turnsF at hx
  split at hx
  ·exact ih hs.2 (fun y hy => hl y (List.mem_cons_of_mem _ hy)) x hx
  ·rename_i hne
   have hlt : n < m := by
    rcases Nat.lt_or_eq_of_le hm with h | rfl
    ·exact h
    ·exact absurd rfl hne
   rcases List.mem_cons.1 hx with rfl | hx
   ·exact hlt
   ·have := hs.1 x (turns_mem x hx); omega
theorem turns_up {f : Nat -> Bool} : ∀ {l : List Nat} {is : Bool}, Srt l -> Up (turnsF f is l) := by
 intro l
 induction l with
 | nil => intro is _; trivial
 | cons n r ih =>
  intro is hs
  unfold turnsF
  split
  ·exact ih hs.2
  ·exact ⟨turns_gt hs.2 hs.1, ih hs.2⟩
theorem turns_in {f : Nat -> Bool} {x : Nat} : ∀ {l : List Nat} {is : Bool}, Srt l -> (inP (turnsF f is l) x ^^ is) = lastF f is l x := by
 intro l
 induction l with
 | nil => intro is _; simp [turnsF, inP, lastF]
 | cons n r ih =>
  intro is hs
  have h1 := ih (is := f n) hs.2
  unfold turnsF lastF
  by_cases hn : n <= x
  ·rw [if_pos hn]
   split
   ·rename_i e; rw [<- e]; exact h1
   ·rename_i e
    rw [inP, if_pos hn, <- h1]
    cases hf : f n <;> cases is <;> simp_all
  ·rw [if_neg hn]
   split
   ·rw [inP_low (fun y hy => by have := hs.1 y (turns_mem y hy); omega)]; simp
   ·rw [inP, if_neg hn]; simp
theorem last_is {f : Nat -> Bool} {x : Nat} : ∀ {l : List Nat} {is : Bool}, Srt l -> (∃ e ∈ l, e <= x) -> ∃ m ∈ l, (∀ e ∈ l, e <= m ↔ e <= x) /\ lastF f is l x = f m := by
 intro l
 induction l with
 | nil => rintro is _ ⟨e, he, _⟩; cases he
 | cons n r ih =>
  intro is hs hex
  have hn : n <= x := by
   obtain ⟨e, he, hle⟩ := hex
   rcases List.mem_cons.1 he with rfl | he
   ·exact hle
   ·have := hs.1 e he; omega
  unfold lastF
  rw [if_pos hn]
  by_cases h : ∃ e ∈ r, e <= x
  ·obtain ⟨m, hm, h1, h2⟩ := ih (is := f n) hs.2 h
   refine ⟨m, List.mem_cons_of_mem _ hm, fun e he => ?_, h2⟩
   rcases List.mem_cons.1 he with rfl | he
   ·have := hs.1 m hm; exact ⟨fun _ => hn, fun _ => this⟩
   ·exact h1 e he
  ·refine ⟨n, List.mem_cons_self, fun e he => ?_, ?_⟩
   ·rcases List.mem_cons.1 he with rfl | he
    ·exact ⟨fun _ => hn, fun _ => Nat.le_refl _⟩
    ·have hgt : ¬ e <= x := fun hle => h ⟨e, he, hle⟩
     constructor
     ·intro hle; omega
     ·intro hle; exact absurd hle hgt
   ·cases r with
    | nil => rfl
    | cons m q =>
     unfold lastF
     rw [if_neg (fun hle => h ⟨m, List.mem_cons_self, hle⟩)]
theorem inP_congr {m x : Nat} : ∀ {l : List Nat}, (∀ e ∈ l, e <= m ↔ e <= x) -> inP l m = inP l x := by
 intro l
 induction l with
 | nil => intro _; rfl
 | cons a r ih =>
  intro h
  have := h a List.mem_cons_self
  unfold inP
  rw [ih (fun e he => h e (List.mem_cons_of_mem _ he))]
  by_cases ha : a <= x
  ·rw [if_pos ha, if_pos (this.2 ha)]
  ·rw [if_neg ha, if_neg (fun hm => ha (this.1 hm))]
def ruleF (a b : List Nat) (rule : Bool -> Bool -> Bool) (n : Nat) : Bool := decide (n < ALL) && rule (inP a n) (inP b n)
def placesF (a b : List Nat) : List Nat := allP (allP (allP [] [0, ALL]) a) b
def mixF (a b : List Nat) (rule : Bool -> Bool -> Bool) : List Nat := turnsF (ruleF a b rule) false (placesF a b)
theorem places_srt (a b : List Nat) : Srt (placesF a b) := allP_srt (allP_srt (allP_srt trivial))
theorem places_mem {a b : List Nat} {x : Nat} : x ∈ placesF a b ↔ (x = 0 \/ x = ALL) \/ x ∈ a \/ x ∈ b := by
 unfold placesF
 rw [allP_mem, allP_mem, allP_mem]
 simp [or_assoc]
theorem mix_in (a b : List Nat) (rule : Bool -> Bool -> Bool) (x : Nat) : inP (mixF a b rule) x = ruleF a b rule x := by
 have h := turns_in (f := ruleF a b rule) (x := x) (is := false) (places_srt a b)
 obtain ⟨m, hm, h1, h2⟩ := last_is (f := ruleF a b rule) (x := x) (is := false) (places_srt a b) ⟨0, places_mem.2 (Or.inl (Or.inl rfl)), Nat.zero_le _⟩
 rw [h2] at h
 simp only [Bool.xor_false] at h
 unfold mixF
 rw [h]
 unfold ruleF
 have hA := h1 ALL (places_mem.2 (Or.inl (Or.inr rfl)))
 rw [inP_congr (l := a) (fun e he => h1 e (places_mem.2 (Or.inr (Or.inl he)))), inP_congr (l := b) (fun e he => h1 e (places_mem.2 (Or.inr (Or.inr he))))]
 congr 1
 rw [decide_eq_decide]
 omega
theorem mix_up (a b : List Nat) (rule : Bool -> Bool -> Bool) : Up (mixF a b rule) := turns_up (places_srt a b)
open Classical in
theorem mix_and {l m : List Span} (hl : Rg l) (hm : Rg m) : mixF (tp l) (tp m) (fun x y => x && y) = tp (nd l m) :=
 up_ext (mix_up _ _ _) (tp_up (rg_nd hl hm)) fun n => by
  rw [mix_in, Bool.eq_iff_iff, tp_in (rg_nd hl hm), mem_nd hl hm]
  unfold ruleF
  rw [Bool.and_eq_true, Bool.and_eq_true, tp_in hl, tp_in hm, decide_eq_true_iff]
  exact ⟨fun h => h.2, fun h => ⟨hl.lt h.1, h⟩⟩
theorem mix_or {l m : List Span} (hl : Rg l) (hm : Rg m) : mixF (tp l) (tp m) (fun x y => x || y) = tp (orr l m) :=
 up_ext (mix_up _ _ _) (tp_up (rg_orr hl hm)) fun n => by
  rw [mix_in, Bool.eq_iff_iff, tp_in (rg_orr hl hm), mem_orr hl hm]
  unfold ruleF
  rw [Bool.and_eq_true, Bool.or_eq_true, tp_in hl, tp_in hm, decide_eq_true_iff]
  exact ⟨fun h => h.2, fun h => ⟨h.elim hl.lt hm.lt, h⟩⟩
theorem mix_not {l : List Span} (hl : Rg l) : mixF (tp l) [] (fun x _ => !x) = tp (nt l) :=
 up_ext (mix_up _ _ _) (tp_up (rg_nt hl)) fun n => by
  rw [mix_in, Bool.eq_iff_iff, tp_in (rg_nt hl), mem_nt hl]
  unfold ruleF
  rw [Bool.and_eq_true, Bool.not_eq_true', decide_eq_true_iff, <- Bool.not_eq_true, tp_in hl]
theorem places_len (a b : List Nat) : (placesF a b).length = a.length + b.length + 2 := by
 have hi : ∀ (l : List Nat) (n : Nat), (insP l n).length = l.length + 1 := fun l n => by
  unfold insP; rw [List.length_append, List.length_cons, List.length_take, List.length_drop]; have := pos_le l n l.length; omega
 have ha : ∀ (l acc : List Nat), (allP acc l).length = acc.length + l.length := fun l => by
  induction l with
  | nil => intro acc; rfl
  | cons x l ih => intro acc; show (allP (insP acc x) l).length = _; rw [ih, hi, List.length_cons]; omega
 unfold placesF
 rw [ha, ha, ha]; simp; omega
end Go.Proofs.YtpmpnbbihmgdpaaGreatDoor.Sv
