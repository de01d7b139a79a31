/- plan, plain: what fits, by what is in a set. -/
import Derived.Test.YtpmpnbbihmgdpaaGreatDoorPlSingle
import Derived.Test.YtpmpnbbihmgdpaaGreatDoorPlSmall
set_option maxHeartbeats 2000000
set_option maxRecDepth 100000
namespace Go.Proofs.YtpmpnbbihmgdpaaGreatDoor
section
open Go.RowKit Go.Deep Sv
theorem newF_its {ls : List Ln} {its : List It} (h : newF ls = .ok its) : its.Perm (itsL ls) := by
 unfold newF at h
 split at h
 ·cases h
 ·split at h
  ·cases h
  ·rename_i g hg
   split at h
   ·cases h
   ·cases h
    have hi := gathF_its ls 0 [] g hg
    simp only [List.nil_append] at hi
    exact hi ▸ sortF_perm g
theorem newF_names {ls : List Ln} {its : List It} (h : newF ls = .ok its) : ∀ x ∈ its, x.name.size <= 100000 := fun x hx => by
 have hm := (newF_its h).mem_iff.1 hx
 unfold itsL at hm
 obtain ⟨y, hy, rfl⟩ := List.mem_map.1 hm
 exact (check_names ((newF_ok h).2.2 y (List.mem_filter.1 hy).1)).1
theorem badF_none {its : List It} {ls : List Ln} {set : Nat} (h : ∀ j, j < ls.length -> keepsB its (ls.getD j default) set = true) : badF its ls set = none := by
 unfold badF
 rw [List.findIdx?_eq_none_iff]
 intro x hx
 obtain ⟨j, hj, rfl⟩ := List.getElem_of_mem hx
 have := h j hj
 rw [List.getD_eq_getElem?_getD, List.getElem?_eq_getElem hj] at this
 simpa using this
theorem badF_some {its : List It} {ls : List Ln} {set i : Nat} (hi : i < ls.length) (h : ∀ j, j < i -> keepsB its (ls.getD j default) set = true) (hb : keepsB its (ls.getD i default) set = false) : badF its ls set = some i := by
 unfold badF
 rw [List.findIdx?_eq_some_iff_getElem]
 refine ⟨hi, ?_, fun j hj => ?_⟩
 ·rw [List.getD_eq_getElem?_getD, List.getElem?_eq_getElem hi] at hb
  simpa using hb
 ·have := h j hj
  rw [List.getD_eq_getElem?_getD, List.getElem?_eq_getElem (show j < ls.length by omega)] at this
  simpa using this
theorem lget_mem (ls : List Ln) (i : Nat) (h : i < ls.length) : ls.getD i default ∈ ls := by
 rw [List.getD_eq_getElem?_getD, List.getElem?_eq_getElem h]; exact List.getElem_mem h
theorem fits_c (bk : Nat) (ls : List Ln) (its : List It) (hN : newF ls = .ok its) (set : Nat) (w : World) (h : CatAt w bk ls its) (hs : set < 18446744073709551616) :
  Calls Tryz.prog 31 #[.pointer (some ⟨bk, 0, none⟩), .int .u64 (set : Int)] w fun e w' => e = .returned (.tuple #[.bool (fitsF its ls set).1, .int .i64 (fitsF its ls set).2]) /\ Below w.heap.size w w' := by
 obtain ⟨hl, hll, hck⟩ := newF_ok hN
 have HSI0 := single_c bk ls its set w h hl (newF_names hN)
 cases hsi : singleB its set with
 | false =>
  rw [hsi] at HSI0
  have HSI := Lib.hid HSI0
  have HF : Hid (fitsF its ls set = (false, -2)) := by show _ = _; unfold fitsF; rw [if_pos hsi]
  rw [HF.out]
  clear HSI0 hsi h hck
  go_enter Tryz.func31, Tryz.ntmps31
  go_wp2_with fail
  refine HSI.out.mono ?_
  rintro e w1 ⟨rfl, hb1⟩
  have HB1 := Lib.hid hb1
  clear hb1 HSI
  go_wp2
  go_ret2
  exact ⟨rfl, HB1.out⟩
 | true =>
  rw [hsi] at HSI0
  have HSI := Lib.hid HSI0
  have HF : Hid (fitsF its ls set = fitsG (badF its ls set)) := by show _ = _; unfold fitsF; rw [if_neg (by rw [hsi]; decide)]
  have HCAT := Lib.hid h
  have HKE : Hid (∀ (W : World) (i : Nat) (ra : Option Addr) (rc : Nat) (x : Ln), i < ls.length -> ls.getD i default = x -> Below w.heap.size w W -> SpAt W (.slice ra x.rng.length rc) x.rng -> Rg x.rng -> Calls Tryz.prog 83 #[.pointer (some ⟨bk, 0, none⟩), .agg #[.int .i64 x.kind, .string x.name, .int .i64 x.a, .int .i64 x.b, .int .i64 x.c, .string x.other, .slice ra x.rng.length rc], .int .u64 (set : Int)] W fun e w' => e = .returned (.bool (keepsB its x set)) /\ Below W.heap.size W w') := fun W i ra rc x hi hx hb hsp hr =>
   keeps_c bk ls its hN x (hx ▸ lget_mem ls i hi) ra rc set W (HCAT.out.below hb (Nat.le_refl _)) hsp hr hs
  clear HSI0 hsi h hck hN
  go_enter Tryz.func31, Tryz.ntmps31
  go_wp2_with fail
  refine HSI.out.mono ?_
  rintro e w1 ⟨rfl, hb1⟩
  have HLN := Lib.hid (lines_c bk ls its w1 (HCAT.out.below hb1 (Nat.le_refl _)) (by omega))
  have HB1 := Lib.hid hb1
  clear hb1 HSI
  go_wp2_with fail
  refine HLN.out.mono ?_
  rintro e w2 ⟨lv, rfl, hlv, hb2⟩
  obtain ⟨la, lc, rfl⟩ : ∃ a c, lv = .slice a ls.length c := by obtain ⟨vs', _, h2⟩ := hlv; obtain ⟨a, c, e, _⟩ := h2.form; exact ⟨a, c, e⟩
  have HLV := Lib.hid hlv
  have HB2 : Hid (Below w.heap.size w w2) := HB1.out.trans (hb2.mono HB1.out.size)
  clear hlv hb2 HLN HB1
  go_wp2_with fail
  go_loopw [15] (fun iV wr => ∃ i : Nat, i <= ls.length /\ iV = .int .i64 (i : Int) /\ (∀ j, j < i -> keepsB its (ls.getD j default) set = true) /\ Below w2.heap.size w2 wr) (fun iV _ => ls.length - (intOf iV).toNat)
  case atStart => exact ⟨0, Nat.zero_le _, rfl, fun j hj => by omega, Below.refl _ _⟩
  case round =>
   obtain ⟨i, hil, rfl, hall, hbr⟩ := hrel
   have HALL := Lib.hid hall
   clear hall
   by_cases hlt : i < ls.length
   ·have hii0 : (0 : Int) <= (i : Int) := by omega
    have hii1 : (i : Int) < (ls.length : Int) := by omega
    obtain ⟨g, cap', rv, e, hg, hsp, hrg, c0, c1, c2, c3, c4, c5, c6⟩ := (HLV.out.below hbr (Nat.le_refl _)).at i hlt
    simp at e
    obtain ⟨rfl, rfl⟩ := e
    obtain ⟨x, hxe⟩ : ∃ x, ls.getD i default = x := ⟨_, rfl⟩
    rw [hxe] at hsp hrg c0 c1 c2 c3 c4 c5
    obtain ⟨ra, rc, rfl⟩ := hsp.form
    have hb6 := below_new wr (.cells #[.int .i64 x.kind, .string x.name, .int .i64 x.a, .int .i64 x.b, .int .i64 x.c, .string x.other, .slice ra x.rng.length rc] 98)
    have kx := Blk.new wr 98 #[.int .i64 x.kind, .string x.name, .int .i64 x.a, .int .i64 x.b, .int .i64 x.c, .string x.other, .slice ra x.rng.length rc]
    have HB6 : Hid (Below w2.heap.size w2 (wr.alloc (.cells #[.int .i64 x.kind, .string x.name, .int .i64 x.a, .int .i64 x.b, .int .i64 x.c, .string x.other, .slice ra x.rng.length rc] 98))) := hbr.trans (hb6.mono hbr.size)
    have HK6 := Lib.hid (HKE.out _ i ra rc x hlt hxe (HB2.out.trans (HB6.out.mono HB2.out.size)) (hsp.below hb6 (Nat.le_refl _)) hrg)
    have HXE := Lib.hid hxe
    clear hsp hrg hxe hb6 hbr
    go_upto_region 6 with fail
    generalize wr.alloc (.cells #[.int .i64 x.kind, .string x.name, .int .i64 x.a, .int .i64 x.b, .int .i64 x.c, .string x.other, .slice ra x.rng.length rc] 98) = W6 at *
    generalize wr.heap.size = bx at *
    have x0 : W6.cell? ⟨bx, 0, none⟩ = some (.int .i64 x.kind) := kx.cell 0
    have x1 : W6.cell? ⟨bx, 1, none⟩ = some (.string x.name) := kx.cell 1
    have x2 : W6.cell? ⟨bx, 2, none⟩ = some (.int .i64 x.a) := kx.cell 2
    have x3 : W6.cell? ⟨bx, 3, none⟩ = some (.int .i64 x.b) := kx.cell 3
    have x4 : W6.cell? ⟨bx, 4, none⟩ = some (.int .i64 x.c) := kx.cell 4
    have x5 : W6.cell? ⟨bx, 5, none⟩ = some (.string x.other) := kx.cell 5
    have x6 : W6.cell? ⟨bx, 6, none⟩ = some (.slice ra x.rng.length rc) := kx.cell 6
    clear c0 c1 c2 c3 c4 c5 c6 hg kx
    go_wp2_with fail
    refine HK6.out.mono ?_
    rintro e w7 ⟨rfl, hb7⟩
    have HB7 : Hid (Below w2.heap.size w2 w7) := HB6.out.trans (hb7.mono HB6.out.size)
    clear hb7 HB6 HK6 x0 x1 x2 x3 x4 x5 x6
    cases hk : keepsB its x set with
    | true =>
     have HNX : Hid (∀ j, j < i + 1 -> keepsB its (ls.getD j default) set = true) := fun j hj => by
      rcases Nat.lt_succ_iff_lt_or_eq.1 hj with e | e
      ·exact HALL.out j e
      ·rw [e, HXE.out]; exact hk
     clear hk
     go_wp2
     go_roundw
     case rel => exact ⟨i + 1, hlt, by go_num, HNX.out, HB7.out⟩
     case measure => simp [intOf]; omega
    | false =>
     have HBD : Hid (fitsF its ls set = (false, (i : Int))) := by show _ = _; rw [HF.out, badF_some hlt HALL.out (by rw [HXE.out]; exact hk)]; rfl
     have HB8 : Hid (Below w.heap.size w w7) := HB2.out.trans (HB7.out.mono HB2.out.size)
     clear hk
     go_wp2
     go_ret2
     exact ⟨by rw [HBD.out]; rfl, HB8.out⟩
   ·obtain rfl : i = ls.length := by omega
    have HBD : Hid (fitsF its ls set = (true, -1)) := by show _ = _; rw [HF.out, badF_none HALL.out]; rfl
    have HB8 : Hid (Below w.heap.size w wr) := HB2.out.trans (hbr.mono HB2.out.size)
    clear hbr
    go_wp2
    go_ret2
    exact ⟨by rw [HBD.out]; rfl, HB8.out⟩
end
section
open Sv
theorem cntB_one (x : Nat) : cntB x <= 1 ↔ ∀ i k, i < 24 -> k < 24 -> x.testBit i = true -> x.testBit k = true -> i = k := by
 unfold cntB
 obtain ⟨L, hL⟩ : ∃ L, (List.range 24).filter (fun i => x.testBit i) = L := ⟨_, rfl⟩
 have hm : ∀ i, i ∈ L ↔ i < 24 /\ x.testBit i = true := fun i => by rw [<- hL, List.mem_filter, List.mem_range]
 have hnd : L.Nodup := by rw [<- hL]; exact List.Nodup.sublist List.filter_sublist List.nodup_range
 rw [hL]
 constructor
 ·intro h i k hi hk h1 h2
  have a := (hm i).2 ⟨hi, h1⟩
  have b := (hm k).2 ⟨hk, h2⟩
  match L, h, a, b with
  | [y], _, a, b => rw [List.mem_singleton] at a b; rw [a, b]
  | [], _, a, _ => cases a
  | _ :: _ :: _, h, _, _ => simp at h
 ·intro h
  match L, hm, hnd with
  | [], _, _ => simp
  | [y], _, _ => simp
  | y :: z :: r, hm, hnd =>
   exfalso
   have a := (hm y).1 (by simp)
   have b := (hm z).1 (by simp)
   have := h y z a.1 b.1 a.2 b.2
   subst this
   simp at hnd
theorem newF_inv {ls : List Ln} {its : List It} (h : newF ls = .ok its) : ∀ x ∈ its, InV x.a x.b x.c := fun x hx => by
 have hm := (newF_its h).mem_iff.1 hx
 unfold itsL at hm
 obtain ⟨y, hy, rfl⟩ := List.mem_map.1 hm
 exact check_inv ((newF_ok h).2.2 y (List.mem_filter.1 hy).1)
theorem iget_mem (its : List It) (i : Nat) (h : i < its.length) : its.getD i default ∈ its := by
 rw [List.getD_eq_getElem?_getD, List.getElem?_eq_getElem h]; exact List.getElem_mem h
theorem any_has {x : It} (h : InV x.a x.b x.c) : hasF anyF x := by
 refine ⟨h, ?_⟩
 obtain ⟨⟨a0, a1⟩, ⟨b0, b1⟩, c0, c1⟩ := h
 refine mem_any.2 ?_
 show _ < 1000000000
 unfold numV
 omega
open Classical in
theorem mem_among {its : List It} (ha : Asc its) (name : ByteArray) (rng : List Span) (i : Nat) : i ∈ amongF its name rng ↔ i < its.length /\ (its.getD i default).name = name /\ hasF rng (its.getD i default) := by
 unfold amongF
 rw [List.mem_filter, List.mem_range'_1, decide_eq_true_iff]
 have hb := ctRow_bound its name
 constructor
 ·rintro ⟨h1, h2⟩
  have hi : i < its.length := by omega
  exact ⟨hi, (row_iff ha name i hi).2 (by omega), h2⟩
 ·rintro ⟨hi, hn, h2⟩
  have := (row_iff ha name i hi).1 hn
  exact ⟨by omega, h2⟩
theorem mem_any_among {ls : List Ln} {its : List It} (h : newF ls = .ok its) (name : ByteArray) (i : Nat) : i ∈ amongF its name anyF ↔ i < its.length /\ (its.getD i default).name = name := by
 rw [mem_among (new_asc h).1]
 exact ⟨fun ⟨a, b, _⟩ => ⟨a, b⟩, fun ⟨a, b⟩ => ⟨a, b, any_has (newF_inv h _ (iget_mem its i a))⟩⟩
def SingP (its : List It) (set : Nat) : Prop := set < 2 ^ its.length /\ ∀ i k, i < its.length -> k < its.length -> i ≠ k -> set.testBit i = true -> set.testBit k = true -> (its.getD i default).name ≠ (its.getD k default).name
theorem single_iff {ls : List Ln} {its : List It} (h : newF ls = .ok its) (set : Nat) : singleB its set = true ↔ SingP its set := by
 have hl := (newF_ok h).1
 unfold singleB SingP
 rw [Bool.and_eq_true, decide_eq_true_iff, List.all_eq_true]
 constructor
 ·rintro ⟨h1, h2⟩
  refine ⟨h1, fun i k hi hk hne b1 b2 hn => hne ?_⟩
  have := of_decide_eq_true (h2 _ (iget_mem its i hi))
  rw [cntB_one] at this
  refine this i k (by omega) (by omega) ?_ ?_
  ·rw [Nat.testBit_and, b1, amS_test, decide_eq_true ((mem_any_among h _ i).2 ⟨hi, rfl⟩)]; rfl
  ·rw [Nat.testBit_and, b2, amS_test, decide_eq_true ((mem_any_among h _ k).2 ⟨hk, hn.symm⟩)]; rfl
 ·rintro ⟨h1, h2⟩
  refine ⟨h1, fun x hx => decide_eq_true ?_⟩
  rw [cntB_one]
  intro i k hi hk b1 b2
  rw [Nat.testBit_and, Bool.and_eq_true, amS_test, decide_eq_true_iff, mem_any_among h] at b1 b2
  apply Classical.byContradiction
  intro hne
  exact h2 i k b1.2.1 b2.2.1 hne b1.1 b2.1 (b1.2.2.trans b2.2.2.symm)
def anyIn (set : Nat) (l : List Nat) : Bool := l.any fun k => set.testBit k
theorem am_ne (its : List It) (name : ByteArray) (rng : List Span) (set : Nat) : decide (set &&& amS its name rng ≠ 0) = anyIn set (amongF its name rng) := by
 rw [Bool.eq_iff_iff, decide_eq_true_iff]
 unfold anyIn
 rw [List.any_eq_true]
 constructor
 ·intro h
  apply Classical.byContradiction
  intro hc
  refine h ((and_zero_iff _ _).2 fun i ⟨h1, h2⟩ => hc ⟨i, ?_, h1⟩)
  rw [amS_test] at h2
  exact of_decide_eq_true h2
 ·rintro ⟨k, hk, hb⟩ h
  refine (and_zero_iff _ _).1 h k ⟨hb, ?_⟩
  rw [amS_test, decide_eq_true hk]
theorem am_eq (its : List It) (name : ByteArray) (rng : List Span) (set : Nat) : decide (set &&& amS its name rng = 0) = !anyIn set (amongF its name rng) := by
 rw [<- am_ne, Bool.eq_iff_iff]
 simp
theorem pow_eq (set k : Nat) : decide (set &&& 2 ^ k = 0) = !set.testBit k := by
 have := and_pow_ne set k
 rw [Bool.eq_iff_iff, decide_eq_true_iff]
 cases hb : set.testBit k
 ·rw [hb] at this; simp at this ⊢; exact this
 ·rw [hb] at this; simp at this ⊢; exact this
theorem keeps_is (its : List It) (x : Ln) (set : Nat) : keepsB its x set =
  if x.kind = 4 then anyIn set (amongF its x.name x.rng)
  else if x.kind = 2 then !set.testBit (ownN its x) || anyIn set (amongF its x.other x.rng)
  else if x.kind = 3 then !set.testBit (ownN its x) || !anyIn set (amongF its x.other x.rng)
  else true := by
 unfold keepsB
 rw [am_ne, am_ne, am_eq, pow_eq]
end
end Go.Proofs.YtpmpnbbihmgdpaaGreatDoor
