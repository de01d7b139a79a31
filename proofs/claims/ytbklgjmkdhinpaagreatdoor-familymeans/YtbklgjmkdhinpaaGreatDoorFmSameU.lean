/- sameSets, at any two lists; rising lists with the same members. -/
import Derived.Test.YtbklgjmkdhinpaaGreatDoorFmFun
import Derived.Test.YtbklgjmkdhinpaaGreatDoorFmSetsW
import Derived.Test.YtbklgjmkdhinpaaGreatDoorFmRFams
import Derived.Deep.AppendLies
import Derived.Test.YtbklgjmkdhinpaaGreatDoorFmRFamP
set_option maxHeartbeats 4000000
set_option maxRecDepth 100000
namespace Go.Proofs.YtbklgjmkdhinpaaGreatDoor.Fm
open Go.RowKit Go.Maps Go.Proofs.YtbklgjmkdhinpaaGreatDoor.Bd
theorem nan_no (x : Int) (w : World) : Calls Tryz.prog 120 #[.int .u64 x] w fun e w' => e = .returned (.bool false) /\ w = w' := by
 go_enter Tryz.func120, Tryz.ntmps120
 go_wp2
 go_ret
 exact ⟨by simp, rfl⟩
theorem lessU_any (x y : Int) (w : World) : Calls Tryz.prog 94 #[.int .u64 x, .int .u64 y] w fun e w' => e = .returned (.bool (decide (x < y))) /\ w = w' := by
 go_enter Tryz.func94, Tryz.ntmps94
 go_wp2_with fail
 refine (nan_no x w).mono ?_
 rintro e w1 ⟨rfl, rfl⟩
 go_wp2
 go_ret
 exact ⟨rfl, rfl⟩
end Go.Proofs.YtbklgjmkdhinpaaGreatDoor.Fm
namespace Go.Proofs.YtbklgjmkdhinpaaGreatDoor.Fm
open Go.RowKit Go.Maps Go.Proofs.YtbklgjmkdhinpaaGreatDoor.Bd
theorem nsF_len (ns : List Nd) : ∀ (d : Nat) (h : Int) (x : Nat), nsF d ns h = (stF d ns h x).length
 | 0, h, x => by unfold nsF stF; split <;> rfl
 | d + 1, h, x => by
  unfold nsF stF
  split
  ·split <;> rfl
  ·rw [List.length_append, nsF_len ns d _ x, nsF_len ns d _ (x ||| 2 ^ (topOf ns h).toNat)]
theorem nsN_len (ns : List Nd) (h : Int) (x : Nat) : nsN ns h = (stL ns h x).length := nsF_len ns 24 h x
theorem allS_len : ∀ (n v : Nat), (allS n v).length = 2 ^ n
 | 0, _ => rfl
 | n + 1, v => by unfold allS; rw [List.length_append, List.length_map, allS_len n, Nat.pow_succ]; omega
theorem nsN_vars {vars : Nat} {ns : List Nd} (hg : Good vars ns) (hv : vars <= 24) {h : Int} (hh : hasB ns h = true) : nsN ns h <= 2 ^ vars := by
 rw [nsN_len ns h 0, stL_all hg hv hh, <- allS_len vars 0]
 exact List.length_filter_le _ _
def UAt (w : World) (g : Nat) (l : List Nat) : Prop := g < w.heap.size /\ ∀ i, i < l.length -> w.cell? ⟨g, i, none⟩ = some (.int .u64 (l.getD i 0 : Nat))
theorem UAt.below {w w' : World} {g : Nat} {l : List Nat} (h : UAt w g l) (hb : Below w.heap.size w w') : UAt w' g l := ⟨Nat.lt_of_lt_of_le h.1 hb.size, fun i hi => (hb.cell (p := ⟨g, i, none⟩) h.1).trans (h.2 i hi)⟩
theorem row_u {N n c : Nat} {w : World} {a : Option Addr} {l : List Nat} (h : w.ownsRow N 46 1 (.slice a n c) l.length (ucells l)) (hne : 0 < l.length) : ∃ g, a = some ⟨g, 0, none⟩ /\ UAt w g l /\ n = l.length /\ N <= g := by
 rcases h.2 with ⟨-, e⟩ | ⟨g, cap, cur, e, h2, h3, h4⟩
 ·omega
 ·cases e
  have hlt := h.lt g rfl
  refine ⟨g, rfl, ⟨hlt.2, fun i hi => ?_⟩, rfl, hlt.1⟩
  have := h.cellAt i (by omega)
  rwa [ucells_at l i hi] at this
section
variable {B s b : Nat} {O : Nat -> Prop} {vars room : Nat} {ns : List Nd}
end
end Go.Proofs.YtbklgjmkdhinpaaGreatDoor.Fm
namespace Go.Proofs.YtbklgjmkdhinpaaGreatDoor.Fm
open Go.RowKit Go.Maps Go.Proofs.YtbklgjmkdhinpaaGreatDoor.Bd
def qcell (q : Quad) : List Value := [.int .i64 q.a, .int .i64 q.b, .int .i64 q.c, .int .i64 q.d]
def qcells (xs : List Quad) : List Value := xs.flatMap qcell
theorem qcells_at : ∀ (xs : List Quad) (i f : Nat), i < xs.length -> f < 4 -> (qcells xs)[i * 4 + f]? = (qcell (qd xs i))[f]?
 | [], i, f, h, _ => by simp at h
 | q :: qs, 0, f, _, hf => by
  have : qcells (q :: qs) = qcell q ++ qcells qs := rfl
  rw [this, List.getElem?_append_left (by simp [qcell]; omega)]
  simp [qd]
 | q :: qs, i + 1, f, h, hf => by
  have : qcells (q :: qs) = qcell q ++ qcells qs := rfl
  have hl : (qcell q).length = 4 := rfl
  rw [this, List.getElem?_append_right (by rw [hl]; omega), hl, show (i + 1) * 4 + f - 4 = i * 4 + f by omega, qcells_at qs i f (by simpa using h) hf]
  congr 1
theorem qcells_snoc (xs : List Quad) (k : Nat) (h : k < xs.length) : qcells (xs.take (k + 1)) = qcells (xs.take k) ++ qcell (qd xs k) := by
 have : qd xs k = xs[k] := by unfold qd; simp [List.getD_eq_getElem?_getD, List.getElem?_eq_getElem h]
 rw [List.take_succ_eq_append_getElem h, <- this]
 unfold qcells
 rw [List.flatMap_append]
 simp only [List.flatMap_cons, List.flatMap_nil, List.append_nil]
theorem infoStep : (Tryz.prog.info? 60).map (fun i => (i.zero, i.size, i.bytes)) = some (some (.agg #[.int .i64 0, .int .i64 0, .int .i64 0, .int .i64 0]), 4, 32) := by kernel_rfl
theorem addr0 (g j : Nat) : (⟨g, 0, none⟩ : Addr).add j = ⟨g, j, none⟩ := by
 unfold Addr.add; split
 ·rename_i h; subst h; rfl
 ·simp
theorem quads_row {B : Nat} {w : World} {v : Value} {xs : List Quad} (h : w.ownsRow B 60 4 v xs.length (qcells xs)) (ok : ∀ i, i < xs.length -> (qd xs i).Ok) :
  ∃ a c, v = .slice a xs.length c /\ ∀ i, i < xs.length -> ∃ ad, a = some ad /\ QuadAt w ad i (qd xs i) := by
 rcases h.2 with ⟨e, e0⟩ | ⟨g, cap, cur, e, h2, h3, h4⟩
 ·exact ⟨none, 0, by rw [e, e0], fun i hi => by omega⟩
 ·subst e
  have hc : ∀ i f, i < xs.length -> f < 4 -> w.cell? ⟨g, i * 4 + f, none⟩ = (qcell (qd xs i))[f]? := fun i f hi hf => by
   rw [h.cellAt (i * 4 + f) (by omega)]; exact qcells_at xs i f hi hf
  refine ⟨some ⟨g, 0, none⟩, cap, rfl, fun i hi => ⟨_, rfl, ⟨(h.lt g rfl).2, ?_, ?_, ?_, ?_, ok i hi⟩⟩⟩
  ·rw [addr0]; exact hc i 0 hi (by omega)
  ·rw [addr0]; exact hc i 1 hi (by omega)
  ·rw [addr0]; exact hc i 2 hi (by omega)
  ·rw [addr0]; exact hc i 3 hi (by omega)
theorem lsets_no (things : Int) (a : Option Addr) (n c : Nat) (h : things < 0 \/ 6 < things \/ 20 < n) (hn : n <= 9223372036854775807) (w : World) :
  Calls Tryz.prog 5 #[.int .i64 things, .slice a n c] w fun e w' => e = .returned (.tuple #[.pointer none, .slice none 0 0, .slice none 0 0, .bool false]) /\ w = w' := by
 by_cases c1 : things < 0
 ·clear h
  go_enter Tryz.func5, Tryz.ntmps5
  go_wp2
  refine bodyPost_ret (v := .tuple #[.pointer none, .slice none 0 0, .slice none 0 0, .bool false]) (by simp [results, Tryz.results5, go_sem]) rfl ⟨rfl, rfl⟩
 by_cases c2 : 6 < things
 ·clear h
  go_enter Tryz.func5, Tryz.ntmps5
  go_wp2
  refine bodyPost_ret (v := .tuple #[.pointer none, .slice none 0 0, .slice none 0 0, .bool false]) (by simp [results, Tryz.results5, go_sem]) rfl ⟨rfl, rfl⟩
 ·have c3 : (20 : Int) < (n : Int) := by omega
  have d1 : decide (things < 0) = false := by simpa using c1
  have d2 : decide (6 < things) = false := by simpa using c2
  clear h
  go_enter Tryz.func5, Tryz.ntmps5
  go_wp2
  refine bodyPost_ret (v := .tuple #[.pointer none, .slice none 0 0, .slice none 0 0, .bool false]) (by simp [results, Tryz.results5, go_sem]) rfl ⟨rfl, rfl⟩
structure SetsSt (w : World) (vars : Nat) (xs : List Quad) (w' : World) (s b : Nat) (O : Nat -> Prop) (ns : List Nd) (al : List Int) (ga : Nat) (v : Value) (gs : List Nat) : Prop where
 fam : FamAt w.heap.size w' s b O vars 4000 ns
 own : ∀ k, O k -> w.heap.size <= k
 sems : Sems vars ns al (famT vars [fun _ => False, fun y => y = 0] xs)
 ints : IntsAt w' ga al
 apart : ¬ O ga /\ ga ≠ s /\ w.heap.size <= ga
 fams : RFams w.heap.size w' v gs (famT vars [fun _ => False, fun y => y = 0] xs)
 away : ∀ i (h : i < gs.length), ¬ O gs[i] /\ gs[i] ≠ s
 vaway : ∀ k, v.ownBlock = some k -> ¬ O k /\ k ≠ s
 below : Below w.heap.size w w'
 cnt : cntT vars ns <= 1800
theorem RFams.base {B B' : Nat} {w : World} {v : Value} {gs : List Nat} {T : List Fam} (h : RFams B w v gs T) (hB : B' <= B) : RFams B' w v gs T := ⟨ownsRow_base h.row hB, h.len, h.fams, fun g hg => Nat.le_trans hB (h.old g hg)⟩
theorem lsets_yes (vars : Nat) (hv6 : vars <= 6) (xs : List Quad) (v : Value) (w : World) (hx : ArgQuads w v xs) (hxl : xs.length <= 20) :
  Calls Tryz.prog 5 #[.int .i64 (vars : Int), v] w fun e w' => ∃ s b O ns al ga c tv gs, e = .returned (.tuple #[.pointer (some ⟨s, 0, none⟩), .slice (some ⟨ga, 0, none⟩) al.length c, tv, .bool true]) /\ SetsSt w vars xs w' s b O ns al ga tv gs := by
 obtain ⟨a, cap, rfl, hx⟩ := hx
 have HN : Hid (Calls Tryz.prog 14 #[.int .i64 (vars : Int), .int .i64 4000] w fun e w' => ∃ s b O, e = .returned (.tuple #[.pointer (some ⟨s, 0, none⟩), .nilIface]) /\ FamAt w.heap.size w' s b O vars 4000 [] /\ w.heap.size <= s /\ (∀ k, O k -> w.heap.size <= k) /\ Below w.heap.size w w') := fnew_any vars 4000 (by omega) (by omega) w w.heap.size (Nat.le_refl _)
 have HX := Lib.hid hx
 have i1 : (xs.length : Int) <= 20 := by omega
 have i2 : (0 : Int) <= (vars : Int) := by omega
 have i3 : (vars : Int) <= 6 := by omega
 obtain ⟨i0, hin, hz0, hz1, hz2⟩ := info_parts infoStep
 clear hx
 go_enter Tryz.func5, Tryz.ntmps5
 go_wp2_with fail
 refine HN.out.mono ?_
 rintro e w1 ⟨s, b, O, rfl, hS, hs, hO, hb1⟩
 have HS := Lib.hid hS
 have HO := Lib.hid hO
 have HB1 := Lib.hid hb1
 have hw1 := hb1.size
 clear HN hS hO hb1
 go_wp2_with fail
 go_loopw [10, 11] (fun wV iV wr => ∃ k : Nat, k <= xs.length /\ iV = .int .i64 (k : Int) /\ wr.ownsRow w1.heap.size 60 4 wV k (qcells (xs.take k)) /\ Below w1.heap.size w1 wr) (fun _ iV _ => xs.length - (intOf iV).toNat)
 case atStart => exact ⟨0, Nat.zero_le _, rfl, World.ownsRow_nil _ _ _ _, Below.refl _ _⟩
 case round =>
  obtain ⟨k, hk, rfl, hrow, hb2⟩ := hrel
  by_cases hlt : k < xs.length
  ·obtain ⟨ad, rfl, hq⟩ := HX.out k hlt
   have hbk : Below w.heap.size w wr := HB1.out.trans (hb2.mono hw1)
   obtain ⟨hqb, q0, q1, q2, q3, qok⟩ := hq.below hbk hq.lt
   have hadl := hq.lt
   have hsn := qcells_snoc xs k hlt
   obtain ⟨q, hqe⟩ : ∃ q, q = qd xs k := ⟨_, rfl⟩
   rw [<- hqe] at q0 q1 q2 q3 hsn
   obtain ⟨qa, qb, qc, qd'⟩ := q
   simp only at q0 q1 q2 q3
   have i4 : (k : Int) < (xs.length : Int) := by omega
   have HSN := Lib.hid hsn
   have hqb2 : (ad.add (k * 4)).block = ad.block := addr_block _ _
   have hws := hb2.size
   have SX : ∀ X S, Kept S wr X -> (¬ S ad.block) -> (X.cell? (ad.add (k * 4)) = some (.int .i64 qa) /\ X.cell? ⟨(ad.add (k * 4)).block, (ad.add (k * 4)).off + 1, none⟩ = some (.int .i64 qb) /\ X.cell? ⟨(ad.add (k * 4)).block, (ad.add (k * 4)).off + 2, none⟩ = some (.int .i64 qc) /\ X.cell? ⟨(ad.add (k * 4)).block, (ad.add (k * 4)).off + 3, none⟩ = some (.int .i64 qd')) := fun X S hX hn =>
    ⟨(hX.cell (by rw [hqb2]; exact hqb) (by rw [hqb2]; exact hn)).trans q0, (hX.cell (by show (ad.add (k * 4)).block < _; rw [hqb2]; exact hqb) (by show ¬ S (ad.add (k * 4)).block; rw [hqb2]; exact hn)).trans q1, (hX.cell (by show (ad.add (k * 4)).block < _; rw [hqb2]; exact hqb) (by show ¬ S (ad.add (k * 4)).block; rw [hqb2]; exact hn)).trans q2, (hX.cell (by show (ad.add (k * 4)).block < _; rw [hqb2]; exact hqb) (by show ¬ S (ad.add (k * 4)).block; rw [hqb2]; exact hn)).trans q3⟩
   have S0 := SX wr.drew (fun _ => False) (Kept.of_below (Below.refl _ _).drew _) (fun h => h)
   have S1 := SX (wr.drew.alloc (.cells #[.int .i64 qa, .int .i64 qb, .int .i64 qc, .int .i64 qd'] 60)) (fun _ => False) ((Kept.of_below (Below.refl _ _).drew _).trans (Kept.alloc _ wr.drew _)) (fun h => h)
   have HRW := Lib.hid hrow
   have HOWN1 : Hid (∀ X, Below wr.heap.size wr X -> X.ownsRow w1.heap.size 60 4 u10 k (qcells (xs.take k))) := fun X hX => ownsRow_new HRW.out hX
   have HBN : Hid (Below wr.heap.size wr (wr.drew.alloc (.cells #[.int .i64 qa, .int .i64 qb, .int .i64 qc, .int .i64 qd'] 60))) := (below_new wr _).drew
   have HNEWS : Hid (∀ j u, ([.int .i64 qa, .int .i64 qb, .int .i64 qc, .int .i64 qd'] : List Value)[j]? = some u -> (wr.drew.alloc (.cells #[.int .i64 qa, .int .i64 qb, .int .i64 qc, .int .i64 qd'] 60)).cell? ((⟨wr.heap.size, 0, none⟩ : Addr).add j) = some u) := World.news_of_block (cs := #[.int .i64 qa, .int .i64 qb, .int .i64 qc, .int .i64 qd']) (MapKept.heap_alloc wr.drew _).1
   have HONE : Hid (∀ u ∈ ([.int .i64 qa, .int .i64 qb, .int .i64 qc, .int .i64 qd'] : List Value), u.oneCell' = true) := fun u hu => by
    simp at hu
    rcases hu with rfl | rfl | rfl | rfl <;> rfl
   have HFIN : Hid (∀ g cp w2, w2.ownsRow w1.heap.size 60 4 (.slice (some ⟨g, 0, none⟩) (k + 1) cp) (k + 1) (qcells (xs.take k) ++ [.int .i64 qa, .int .i64 qb, .int .i64 qc, .int .i64 qd']) -> (wr.drew.alloc (.cells #[.int .i64 qa, .int .i64 qb, .int .i64 qc, .int .i64 qd'] 60)).grownBy w2 u10.ownBlock ->
     (w2.cell? (ad.add (k * 4)) = some (.int .i64 qa) /\ w2.cell? ⟨(ad.add (k * 4)).block, (ad.add (k * 4)).off + 1, none⟩ = some (.int .i64 qb) /\ w2.cell? ⟨(ad.add (k * 4)).block, (ad.add (k * 4)).off + 2, none⟩ = some (.int .i64 qc) /\ w2.cell? ⟨(ad.add (k * 4)).block, (ad.add (k * 4)).off + 3, none⟩ = some (.int .i64 qd')) /\
     w2.ownsRow w1.heap.size 60 4 (.slice (some ⟨g, 0, none⟩) (k + 1) cp) (k + 1) (qcells (xs.take (k + 1))) /\ Below w1.heap.size w1 w2) := fun g cp w2 h1 h2 => by
    have hk2 : Kept (fun j => u10.ownBlock = some j) wr w2 := ((Kept.of_below (Below.refl _ _).drew _).trans (Kept.alloc _ wr.drew _)).andThen (Kept.of_grown h2 (fun i h => h)) (fun i h _ => h)
    refine ⟨SX w2 _ hk2 (fun h => ?_), ?_, hb2.trans (hk2.below hws (fun j e => (HRW.out.lt j e).1))⟩
    ·have := (HRW.out.lt _ h).1; omega
    ·rw [HSN.out]; exact h1
   have c3 : k + 1 <= maxLen := by unfold maxLen; omega
   have c4 : (k + 1) * 32 <= 140737488355328 := by omega
   have c5 : w1.heap.size <= (wr.drew.alloc (.cells #[.int .i64 qa, .int .i64 qb, .int .i64 qc, .int .i64 qd'] 60)).heap.size := by simp; omega
   have C5 := Lib.hid c5
   clear SX hrow hb2 q0 q1 q2 q3 hq hqe hsn hbk hqb2 c5
   go_wp2_with fail
   go_region_held3 (fun X => X.cell? (ad.add (k * 4)) = some (.int .i64 qa) /\ X.cell? ⟨(ad.add (k * 4)).block, (ad.add (k * 4)).off + 1, none⟩ = some (.int .i64 qb) /\ X.cell? ⟨(ad.add (k * 4)).block, (ad.add (k * 4)).off + 2, none⟩ = some (.int .i64 qc) /\ X.cell? ⟨(ad.add (k * 4)).block, (ad.add (k * 4)).off + 3, none⟩ = some (.int .i64 qd')) (first | exact S0 | exact S1 | exact hfin.1)
    (first
     | (refine step_append_lies _ rfl _ _ 57 rfl w1.heap.size 60 i0 (.agg #[.int .i64 0, .int .i64 0, .int .i64 0, .int .i64 0]) 4 32 Tryz.underlying57 hin hz0 hz1 hz2 rfl (by decide) u10 k (qcells (xs.take k)) rfl (HOWN1.out _ HBN.out) ⟨wr.heap.size, 0, none⟩ 1 1 [.int .i64 qa, .int .i64 qb, .int .i64 qc, .int .i64 qd'] rfl rfl HNEWS.out HONE.out (by decide) c3 c4 C5.out _ rfl ?_; intro g cp w2 hown2 hgrow2 hor2 hlt2; have hfin := HFIN.out g cp w2 hown2 hgrow2; clear hown2 hgrow2 hor2 hlt2))
   have HF2 := Lib.hid hfin.2
   clear hfin S0 S1 HFIN HNEWS HONE HBN HOWN1
   go_wp2
   go_roundw
   case rel => exact ⟨k + 1, by omega, by go_num, HF2.out.1, HF2.out.2⟩
   case measure => simp [intOf]; omega
  ·obtain rfl : xs.length = k := by omega
   rw [List.take_length] at hrow
   have hws := hb2.size
   have hqs := quads_row hrow (fun i hi => by
    obtain ⟨ad, -, h2⟩ := HX.out i hi
    exact h2.ok)
   obtain ⟨a2, c2, rfl, hqq⟩ := hqs
   have hSr := HS.out.new hb2
   have HF := Lib.hid (families_any hSr hv6 xs a cap (fun i hi => by
    obtain ⟨ad, h1, h2⟩ := HX.out i hi
    exact ⟨ad, h1, h2.below (HB1.out.trans (hb2.mono hw1)) h2.lt, fun ho => by have := HO.out _ ho; have := h2.lt; omega⟩) hxl rfl (by omega))
   have HQ : Hid (∀ O2 W, Mv O O2 wr W -> ∀ i, i < xs.length -> ∃ ad, a2 = some ad /\ QuadAt W ad i (qd xs i)) := fun O2 W hm i hi => by
    obtain ⟨ad, h1, h2⟩ := hqq i hi
    refine ⟨ad, h1, h2.kept hm.kept (fun ho => ?_)⟩
    have h3 := (HS.out.space.own _ ho).2
    have h4 : w1.heap.size <= ad.block := by
     rcases hrow.2 with ⟨e, -⟩ | ⟨g, cp, cur, e, h5, -⟩
     ·rw [h1] at e; simp at e
     ·rw [h1] at e; simp at e; rw [e.1]; exact h5
    omega
   have HBR := Lib.hid hb2
   clear hrow hSr hqq hb2 HX
   go_wp2_with fail
   refine HF.out.mono ?_
   rintro e w2 ⟨ns, al, a3, c3, O2, rfl, hF⟩
   have HT := Lib.hid (rfamilies_any vars hv6 xs a2 c2 w2 (HQ.out _ _ hF.moves) hxl)
   have hal : al.length = 2 + xs.length := by
    have := hF.sems.len
    rw [famT_len] at this
    simpa using this
   have hfl := hF.fam.len
   obtain ⟨ga, rfl, hIA, -⟩ := ints_of_row hF.row (by omega) (fun x hx => has_i64 (hF.sems.has x hx) (by omega))
   have hap := hF.apart ga rfl
   have hb2 : Below w.heap.size w w2 := (HB1.out.trans (HBR.out.mono hw1)).trans (hF.moves.below (by omega) HO.out)
   have HB2 := Lib.hid hb2
   have HFF := Lib.hid hF
   have HIA := Lib.hid hIA
   have HAP := Lib.hid hap
   have hO2 : ∀ k, O2 k -> w.heap.size <= k := fun k hk => by
    rcases hF.moves.own k hk with h | h
    ·exact HO.out k h
    ·omega
   have HO2 := Lib.hid hO2
   have hm2 := hF.moves.size
   have hal22 : al.length <= 22 := by omega
   clear HF hF hIA hb2 HQ hap hO2 hal hfl
   go_wp2_with fail
   refine HT.out.mono ?_
   rintro e w3 ⟨tv, gs, rfl, hT, hb3⟩
   have hgl : 0 < gs.length := by
    have := hT.len
    rw [famT_len] at this
    simp at this; omega
   have hold := HB2.out.size
   have hfin : SetsSt w vars xs w3 s b O2 ns al ga tv gs := by
    have hs2 := HFF.out.fam.space.slt
    have ho2 := fun k hk => (HFF.out.fam.space.own k hk).2
    refine ⟨HFF.out.fam.new hb3, HO2.out, HFF.out.sems, intsKept HIA.out hb3, ⟨HAP.out.1, HAP.out.2.1, by have := HAP.out.2.2; omega⟩, hT.base hold, fun i hi => ?_, fun k hk => ?_, HB2.out.trans (hb3.mono hold), by have := HFF.out.cnt; omega⟩
    ·have := hT.old _ (List.getElem_mem hi)
     exact ⟨fun h => by have := ho2 _ h; omega, by omega⟩
    ·have := (hT.row.lt k hk).1
     exact ⟨fun h => by have := ho2 _ h; omega, by omega⟩
   obtain ⟨tg, tc, rfl, -⟩ := hT.cell hgl
   have HFIN := Lib.hid hfin
   clear HT hT hb3 hfin HB2 HFF HIA HAP HO2
   go_wp2
   refine bodyPost_ret (v := .tuple #[.pointer (some ⟨s, 0, none⟩), .slice (some ⟨ga, 0, none⟩) al.length c3, .slice (some ⟨tg, 0, none⟩) gs.length tc, .bool true]) (by simp [results, Tryz.results5, go_sem]) rfl ⟨s, b, O2, ns, al, ga, c3, _, gs, rfl, HFIN.out⟩
end Go.Proofs.YtbklgjmkdhinpaaGreatDoor.Fm
namespace Go.Proofs.YtbklgjmkdhinpaaGreatDoor.Fm
open Go.RowKit Go.Maps Go.Proofs.YtbklgjmkdhinpaaGreatDoor.Bd
def UArg (w : World) (v : Value) (l : List Nat) : Prop := ∃ a c, v = .slice a l.length c /\ ∀ i, i < l.length -> ∃ g, a = some ⟨g, 0, none⟩ /\ g < w.heap.size /\ w.cell? ⟨g, i, none⟩ = some (.int .u64 (l.getD i 0 : Nat))
theorem UArg.below {w w' : World} {v : Value} {l : List Nat} (h : UArg w v l) (hb : Below w.heap.size w w') : UArg w' v l := by
 obtain ⟨a, c, e, h⟩ := h
 refine ⟨a, c, e, fun i hi => ?_⟩
 obtain ⟨g, h1, h2, h3⟩ := h i hi
 exact ⟨g, h1, Nat.lt_of_lt_of_le h2 hb.size, (hb.cell (p := ⟨g, i, none⟩) h2).trans h3⟩
theorem UArg.of_row {B : Nat} {w : World} {v : Value} {l : List Nat} (h : w.ownsRow B 46 1 v l.length (ucells l)) : UArg w v l := by
 obtain ⟨a, c, rfl⟩ := urow_form h
 refine ⟨a, c, rfl, fun i hi => ?_⟩
 obtain ⟨g, rfl, hc⟩ := urow_cell h i hi
 exact ⟨g, rfl, (h.lt g rfl).2, hc⟩
theorem rising_eq : ∀ {l m : List Nat}, l.Pairwise (· < ·) -> m.Pairwise (· < ·) -> (∀ x, x ∈ l ↔ x ∈ m) -> l = m
 | [], [], _, _, _ => rfl
 | [], b :: m, _, _, h => by have := (h b).2 (List.mem_cons_self ..); cases this
 | a :: l, [], _, _, h => by have := (h a).1 (List.mem_cons_self ..); cases this
 | a :: l, b :: m, h1, h2, h => by
  rw [List.pairwise_cons] at h1 h2
  have e : a = b := by
   rcases List.mem_cons.1 ((h a).1 (List.mem_cons_self ..)) with e | e
   ·exact e
   ·rcases List.mem_cons.1 ((h b).2 (List.mem_cons_self ..)) with e2 | e2
    ·exact e2.symm
    ·have := h1.1 b e2; have := h2.1 a e; omega
  subst e
  rw [rising_eq h1.2 h2.2 (fun x => by
   have hx := h x
   rw [List.mem_cons, List.mem_cons] at hx
   constructor
   ·intro k
    rcases hx.1 (.inr k) with e | e
    ·subst e; have := h1.1 x k; omega
    ·exact e
   ·intro k
    rcases hx.2 (.inr k) with e | e
    ·subst e; have := h2.1 x k; omega
    ·exact e)]
theorem same_step {l m : List Nat} {k : Nat} (h1 : k < l.length) (h2 : k < m.length) (h : l.take k = m.take k) : l.take (k + 1) = m.take (k + 1) ↔ l.getD k 0 = m.getD k 0 := by
 rw [List.take_succ_eq_append_getElem h1, List.take_succ_eq_append_getElem h2, h]
 simp only [List.append_cancel_left_eq, List.cons.injEq, and_true, List.getD_eq_getElem?_getD, List.getElem?_eq_getElem h1, List.getElem?_eq_getElem h2, Option.getD_some]
theorem sameU_any (w : World) (v1 v2 : Value) (l m : List Nat) (h1 : UArg w v1 l) (h2 : UArg w v2 m) (hl : l.length <= 1000000) :
  Calls Tryz.prog 10 #[v1, v2] w fun e w' => e = .returned (.bool (decide (l = m))) /\ Below w.heap.size w w' := by
 obtain ⟨a, c, rfl, h1⟩ := h1
 obtain ⟨a', c', rfl, h2⟩ := h2
 by_cases hlen : l.length = m.length
 ·have H1 := Lib.hid h1
  have H2 := Lib.hid h2
  have HLE := Lib.hid hlen
  obtain ⟨n, hn⟩ : ∃ n, n = l.length := ⟨_, rfl⟩
  have hnm : n = m.length := hn.trans hlen
  rw [<- hn, <- hnm]
  have HN := Lib.hid hn
  have HNM := Lib.hid hnm
  have hnb : n <= 1000000 := by omega
  have enn : (n != n) = false := by simp
  clear h1 h2 hlen hl hn hnm
  go_enter Tryz.func10, Tryz.ntmps10
  go_wp2_with fail
  go_loopw [5] (fun i wr => ∃ k : Nat, k <= n /\ i = .int .i64 (k : Int) /\ l.take k = m.take k /\ Below w.heap.size w wr) (fun i _ => n - (intOf i).toNat)
  case atStart => exact ⟨0, Nat.zero_le _, rfl, rfl, Below.refl _ _⟩
  case round =>
   obtain ⟨k, hk, rfl, htk, hb⟩ := hrel
   by_cases hlt : k < n
   ·obtain ⟨g, rfl, hg, hc⟩ := H1.out k (by rw [<- HN.out]; exact hlt)
    obtain ⟨g', rfl, hg', hc'⟩ := H2.out k (by rw [<- HNM.out]; exact hlt)
    have a0 := (hb.cell (p := ⟨g, k, none⟩) hg).trans hc
    have b0 := (hb.cell (p := ⟨g', k, none⟩) hg').trans hc'
    have i1 : (k : Int) < (n : Int) := by omega
    have hst := same_step (by rw [<- HN.out]; exact hlt) (by rw [<- HNM.out]; exact hlt) htk
    have HST := Lib.hid hst
    have HB := Lib.hid hb
    clear htk hc hc' hst hb
    obtain ⟨x, hx⟩ : ∃ x, x = l.getD k 0 := ⟨_, rfl⟩
    obtain ⟨y, hy⟩ : ∃ y, y = m.getD k 0 := ⟨_, rfl⟩
    rw [<- hx] at a0
    rw [<- hy] at b0
    rw [<- hx, <- hy] at HST
    clear hx hy
    by_cases e : x = y
    ·subst e
     have HT := Lib.hid (HST.out.2 rfl)
     clear HST
     have exx : (((x : Int)) != ((x : Int))) = false := by simp
     go_wp2_with fail
     go_quiet (fail)
     go_wp2
     go_roundw
     case rel => exact ⟨k + 1, by omega, by go_num, HT.out, below_drewN HB.out _⟩
     case measure => simp [intOf]; omega
    ·have exy : (((x : Int)) != ((y : Int))) = true := by simp; omega
     have hne : l ≠ m := fun k2 => e (HST.out.1 (by rw [k2]))
     have HD := Lib.hid (decide_eq_false hne)
     clear HST hne
     go_wp2_with fail
     go_quiet (fail)
     go_wp2
     go_ret
     exact ⟨by rw [HD.out]; rfl, below_drewN HB.out _⟩
   ·obtain rfl : n = k := by omega
    have hlm : l = m := by
     have e1 : l.take n = l := by rw [HN.out]; exact List.take_length ..
     have e2 : m.take n = m := by rw [HNM.out]; exact List.take_length ..
     rw [e1, e2] at htk; exact htk
    have HD := Lib.hid (decide_eq_true hlm)
    clear htk hlm
    go_wp2
    go_ret
    exact ⟨by rw [HD.out]; rfl, hb⟩
 ·have hne : l ≠ m := fun k => hlen (by rw [k])
  have HD := Lib.hid (decide_eq_false hne)
  have e : (((l.length : Int)) != ((m.length : Int))) = true := by simp; omega
  clear h1 h2 hne
  generalize l.length = n1 at *
  generalize m.length = n2 at *
  go_enter Tryz.func10, Tryz.ntmps10
  go_wp2
  go_ret
  exact ⟨by rw [HD.out]; rfl, Below.refl _ _⟩
end Go.Proofs.YtbklgjmkdhinpaaGreatDoor.Fm
