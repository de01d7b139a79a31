/- The k-th values of which a diagram is true, as a plain function. -/
import Derived.Test.YtcjjekhecjmaeaaGreatDoorBdTabW
import Derived.Deep.AppendLies
import Derived.Test.YtcjjekhecjmaeaaGreatDoorCnOf
import Derived.Test.YtcjjekhecjmaeaaGreatDoorArQuad
set_option maxHeartbeats 4000000
set_option maxRecDepth 100000
namespace Go.Proofs.YtcjjekhecjmaeaaGreatDoor
section
open Go.RowKit Go.Maps
def qcell (q : Quad) : List Value := [.int .i64 q.a, .int .i64 q.b, .int .i64 q.c, .int .i64 q.d]
def qcells (xs : List Quad) : List Value := xs.flatMap qcell
theorem qcells_at : ∀ (xs : List Quad) (i f : Nat), i < xs.length -> f < 4 -> (qcells xs)[i * 4 + f]? = (qcell (qd xs i))[f]?
 | [], i, f, h, _ => by simp at h
 | q :: qs, 0, f, _, hf => by
  have : qcells (q :: qs) = qcell q ++ qcells qs := rfl
  rw [this, List.getElem?_append_left (by simp [qcell]; omega)]
  simp [qd]
 | q :: qs, i + 1, f, h, hf => by
  have : qcells (q :: qs) = qcell q ++ qcells qs := rfl
  have hl : (qcell q).length = 4 := rfl
  rw [this, List.getElem?_append_right (by rw [hl]; omega), hl, show (i + 1) * 4 + f - 4 = i * 4 + f by omega, qcells_at qs i f (by simpa using h) hf]
  congr 1
theorem qcells_snoc (xs : List Quad) (k : Nat) (h : k < xs.length) : qcells (xs.take (k + 1)) = qcells (xs.take k) ++ qcell (qd xs k) := by
 have : qd xs k = xs[k] := by unfold qd; simp [List.getD_eq_getElem?_getD, List.getElem?_eq_getElem h]
 rw [List.take_succ_eq_append_getElem h, <- this]
 unfold qcells
 rw [List.flatMap_append]
 simp only [List.flatMap_cons, List.flatMap_nil, List.append_nil]
theorem infoStep : (Tryz.prog.info? 80).map (fun i => (i.zero, i.size, i.bytes)) = some (some (.agg #[.int .i64 0, .int .i64 0, .int .i64 0, .int .i64 0]), 4, 32) := by kernel_rfl
theorem addr0 (g j : Nat) : (⟨g, 0, none⟩ : Addr).add j = ⟨g, j, none⟩ := by
 unfold Addr.add; split
 ·rename_i h; subst h; rfl
 ·simp
theorem quads_row {B : Nat} {w : World} {v : Value} {xs : List Quad} (h : w.ownsRow B 80 4 v xs.length (qcells xs)) (ok : ∀ i, i < xs.length -> (qd xs i).Ok) :
  ∃ a c, v = .slice a xs.length c /\ ∀ i, i < xs.length -> ∃ ad, a = some ad /\ QuadAt w ad i (qd xs i) := by
 rcases h.2 with ⟨e, e0⟩ | ⟨g, cap, cur, e, h2, h3, h4⟩
 ·exact ⟨none, 0, by rw [e, e0], fun i hi => by omega⟩
 ·subst e
  have hc : ∀ i f, i < xs.length -> f < 4 -> w.cell? ⟨g, i * 4 + f, none⟩ = (qcell (qd xs i))[f]? := fun i f hi hf => by
   rw [h.cellAt (i * 4 + f) (by omega)]; exact qcells_at xs i f hi hf
  refine ⟨some ⟨g, 0, none⟩, cap, rfl, fun i hi => ⟨_, rfl, ⟨(h.lt g rfl).2, ?_, ?_, ?_, ?_, ok i hi⟩⟩⟩
  ·rw [addr0]; exact hc i 0 hi (by omega)
  ·rw [addr0]; exact hc i 1 hi (by omega)
  ·rw [addr0]; exact hc i 2 hi (by omega)
  ·rw [addr0]; exact hc i 3 hi (by omega)
end
section
open Go.RowKit Go.Maps
theorem made_no (vars : Int) (a : Option Addr) (n c : Nat) (h : vars < 1 \/ 6 < vars \/ 25 < n) (hn : n <= 9223372036854775807) (w : World) :
  Calls Tryz.prog 8 #[.int .i64 vars, .slice a n c] w fun e w' => e = .returned (.tuple #[.pointer none, .slice none 0 0, .slice none 0 0, .bool false]) /\ w = w' := by
 by_cases c1 : vars < 1
 ·clear h
  go_enter Tryz.func8, Tryz.ntmps8
  go_wp2
  refine bodyPost_ret (v := .tuple #[.pointer none, .slice none 0 0, .slice none 0 0, .bool false]) (by simp [results, Tryz.results8, go_sem]) rfl ⟨rfl, rfl⟩
 by_cases c2 : 6 < vars
 ·clear h
  go_enter Tryz.func8, Tryz.ntmps8
  go_wp2
  refine bodyPost_ret (v := .tuple #[.pointer none, .slice none 0 0, .slice none 0 0, .bool false]) (by simp [results, Tryz.results8, go_sem]) rfl ⟨rfl, rfl⟩
 ·have c3 : (25 : Int) < (n : Int) := by omega
  have d1 : decide (vars < 1) = false := by simpa using c1
  have d2 : decide (6 < vars) = false := by simpa using c2
  clear h
  go_enter Tryz.func8, Tryz.ntmps8
  go_wp2
  refine bodyPost_ret (v := .tuple #[.pointer none, .slice none 0 0, .slice none 0 0, .bool false]) (by simp [results, Tryz.results8, go_sem]) rfl ⟨rfl, rfl⟩
structure MadeSt (w : World) (vars : Nat) (xs : List Quad) (w' : World) (s b : Nat) (O : Nat -> Prop) (ga : Nat) (v : Value) (gs : List Nat) : Prop where
 space : SpaceAt w.heap.size w' s b O vars 4000 (funF vars ([], [0, 1]) xs).1
 ints : IntsAt w' ga (funF vars ([], [0, 1]) xs).2
 tabs : TabsAt w.heap.size w' v (2 ^ vars) gs ((funT vars [fun _ => false, fun _ => true] xs).map (tabOf vars))
 below : Below w.heap.size w w'
theorem TabsAt.base {B B' n : Nat} {w : World} {v : Value} {gs : List Nat} {ts : List (List Bool)} (h : TabsAt B w v n gs ts) (hB : B' <= B) : TabsAt B' w v n gs ts :=
 ⟨ownsRow_base h.row hB, h.len, h.lens, fun g hg => Nat.le_trans hB (h.old g hg), h.apart, h.tabs⟩
theorem made_yes (vars : Nat) (hv0 : 0 < vars) (hv6 : vars <= 6) (xs : List Quad) (v : Value) (w : World) (hx : ArgQuads w v xs) (hxl : xs.length <= 25) :
  Calls Tryz.prog 8 #[.int .i64 (vars : Int), v] w fun e w' => ∃ s b O ga c tv gs, e = .returned (.tuple #[.pointer (some ⟨s, 0, none⟩), .slice (some ⟨ga, 0, none⟩) (funF vars ([], [0, 1]) xs).2.length c, tv, .bool true]) /\ MadeSt w vars xs w' s b O ga tv gs := by
 obtain ⟨a, cap, rfl, hx⟩ := hx
 have HN := Lib.hid (bnew_any vars (by omega) 4000 (by omega) (by omega) w w.heap.size (Nat.le_refl _))
 have HX := Lib.hid hx
 have i1 : (xs.length : Int) <= 25 := by omega
 have i2 : (1 : Int) <= (vars : Int) := by omega
 have i3 : (vars : Int) <= 6 := by omega
 obtain ⟨hsem, hlen, hal⟩ := fun_ok hv0 hv6 xs [] [0, 1] _ (sems_start (good_nil vars)) (by simp) (by simp; omega)
 have hne : 0 < (funF vars ([], [0, 1]) xs).2.length := by rw [hal]; simp; omega
 have hi64 : ∀ x ∈ (funF vars ([], [0, 1]) xs).2, I64 x := fun x hx => has_i64 (hsem.has x hx) (by simp at hlen; omega)
 have HI64 := Lib.hid hi64
 have HNE := Lib.hid hne
 obtain ⟨i0, hin, hz0, hz1, hz2⟩ := info_parts infoStep
 clear hx hsem hlen hal hne hi64
 go_enter Tryz.func8, Tryz.ntmps8
 go_wp2_with fail
 refine HN.out.mono ?_
 rintro e w1 ⟨s, b, O, rfl, hS, hs, hO, hb1⟩
 have HS := Lib.hid hS
 have HO := Lib.hid hO
 have HB1 := Lib.hid hb1
 have hw1 := hb1.size
 clear HN hS hO hb1
 go_wp2_with fail
 go_loopw [10, 11] (fun wV iV wr => ∃ k : Nat, k <= xs.length /\ iV = .int .i64 (k : Int) /\ wr.ownsRow w1.heap.size 80 4 wV k (qcells (xs.take k)) /\ Below w1.heap.size w1 wr) (fun _ iV _ => xs.length - (intOf iV).toNat)
 case atStart => exact ⟨0, Nat.zero_le _, rfl, World.ownsRow_nil _ _ _ _, Below.refl _ _⟩
 case round =>
  obtain ⟨k, hk, rfl, hrow, hb2⟩ := hrel
  by_cases hlt : k < xs.length
  ·obtain ⟨ad, rfl, hq⟩ := HX.out k hlt
   have hbk : Below w.heap.size w wr := HB1.out.trans (hb2.mono hw1)
   obtain ⟨hqb, q0, q1, q2, q3, qok⟩ := hq.below hbk hq.lt
   have hadl := hq.lt
   have hsn := qcells_snoc xs k hlt
   obtain ⟨q, hqe⟩ : ∃ q, q = qd xs k := ⟨_, rfl⟩
   rw [<- hqe] at q0 q1 q2 q3 hsn
   obtain ⟨qa, qb, qc, qd'⟩ := q
   simp only at q0 q1 q2 q3
   have i4 : (k : Int) < (xs.length : Int) := by omega
   have HSN := Lib.hid hsn
   have hqb2 : (ad.add (k * 4)).block = ad.block := addr_block _ _
   have hws := hb2.size
   have SX : ∀ X S, Kept S wr X -> (¬ S ad.block) -> (X.cell? (ad.add (k * 4)) = some (.int .i64 qa) /\ X.cell? ⟨(ad.add (k * 4)).block, (ad.add (k * 4)).off + 1, none⟩ = some (.int .i64 qb) /\ X.cell? ⟨(ad.add (k * 4)).block, (ad.add (k * 4)).off + 2, none⟩ = some (.int .i64 qc) /\ X.cell? ⟨(ad.add (k * 4)).block, (ad.add (k * 4)).off + 3, none⟩ = some (.int .i64 qd')) := fun X S hX hn =>
    ⟨(hX.cell (by rw [hqb2]; exact hqb) (by rw [hqb2]; exact hn)).trans q0, (hX.cell (by show (ad.add (k * 4)).block < _; rw [hqb2]; exact hqb) (by show ¬ S (ad.add (k * 4)).block; rw [hqb2]; exact hn)).trans q1, (hX.cell (by show (ad.add (k * 4)).block < _; rw [hqb2]; exact hqb) (by show ¬ S (ad.add (k * 4)).block; rw [hqb2]; exact hn)).trans q2, (hX.cell (by show (ad.add (k * 4)).block < _; rw [hqb2]; exact hqb) (by show ¬ S (ad.add (k * 4)).block; rw [hqb2]; exact hn)).trans q3⟩
   have S0 := SX wr.drew (fun _ => False) (Kept.of_below (Below.refl _ _).drew _) (fun h => h)
   have S1 := SX (wr.drew.alloc (.cells #[.int .i64 qa, .int .i64 qb, .int .i64 qc, .int .i64 qd'] 80)) (fun _ => False) ((Kept.of_below (Below.refl _ _).drew _).trans (Kept.alloc _ wr.drew _)) (fun h => h)
   have HRW := Lib.hid hrow
   have HOWN1 : Hid (∀ X, Below wr.heap.size wr X -> X.ownsRow w1.heap.size 80 4 u10 k (qcells (xs.take k))) := fun X hX => ownsRow_new HRW.out hX
   have HBN : Hid (Below wr.heap.size wr (wr.drew.alloc (.cells #[.int .i64 qa, .int .i64 qb, .int .i64 qc, .int .i64 qd'] 80))) := (below_new wr _).drew
   have HNEWS : Hid (∀ j u, ([.int .i64 qa, .int .i64 qb, .int .i64 qc, .int .i64 qd'] : List Value)[j]? = some u -> (wr.drew.alloc (.cells #[.int .i64 qa, .int .i64 qb, .int .i64 qc, .int .i64 qd'] 80)).cell? ((⟨wr.heap.size, 0, none⟩ : Addr).add j) = some u) := World.news_of_block (cs := #[.int .i64 qa, .int .i64 qb, .int .i64 qc, .int .i64 qd']) (MapKept.heap_alloc wr.drew _).1
   have HONE : Hid (∀ u ∈ ([.int .i64 qa, .int .i64 qb, .int .i64 qc, .int .i64 qd'] : List Value), u.oneCell' = true) := fun u hu => by
    simp at hu
    rcases hu with rfl | rfl | rfl | rfl <;> rfl
   have HFIN : Hid (∀ g cp w2, w2.ownsRow w1.heap.size 80 4 (.slice (some ⟨g, 0, none⟩) (k + 1) cp) (k + 1) (qcells (xs.take k) ++ [.int .i64 qa, .int .i64 qb, .int .i64 qc, .int .i64 qd']) -> (wr.drew.alloc (.cells #[.int .i64 qa, .int .i64 qb, .int .i64 qc, .int .i64 qd'] 80)).grownBy w2 u10.ownBlock ->
     (w2.cell? (ad.add (k * 4)) = some (.int .i64 qa) /\ w2.cell? ⟨(ad.add (k * 4)).block, (ad.add (k * 4)).off + 1, none⟩ = some (.int .i64 qb) /\ w2.cell? ⟨(ad.add (k * 4)).block, (ad.add (k * 4)).off + 2, none⟩ = some (.int .i64 qc) /\ w2.cell? ⟨(ad.add (k * 4)).block, (ad.add (k * 4)).off + 3, none⟩ = some (.int .i64 qd')) /\
     w2.ownsRow w1.heap.size 80 4 (.slice (some ⟨g, 0, none⟩) (k + 1) cp) (k + 1) (qcells (xs.take (k + 1))) /\ Below w1.heap.size w1 w2) := fun g cp w2 h1 h2 => by
    have hk2 : Kept (fun j => u10.ownBlock = some j) wr w2 := ((Kept.of_below (Below.refl _ _).drew _).trans (Kept.alloc _ wr.drew _)).andThen (Kept.of_grown h2 (fun i h => h)) (fun i h _ => h)
    refine ⟨SX w2 _ hk2 (fun h => ?_), ?_, hb2.trans (hk2.below hws (fun j e => (HRW.out.lt j e).1))⟩
    ·have := (HRW.out.lt _ h).1; omega
    ·rw [HSN.out]; exact h1
   have c3 : k + 1 <= maxLen := by unfold maxLen; omega
   have c4 : (k + 1) * 32 <= 140737488355328 := by omega
   have c5 : w1.heap.size <= (wr.drew.alloc (.cells #[.int .i64 qa, .int .i64 qb, .int .i64 qc, .int .i64 qd'] 80)).heap.size := by simp; omega
   have C5 := Lib.hid c5
   clear SX hrow hb2 q0 q1 q2 q3 hq hqe hsn hbk hqb2 c5
   go_wp2_with fail
   go_region_held3 (fun X => X.cell? (ad.add (k * 4)) = some (.int .i64 qa) /\ X.cell? ⟨(ad.add (k * 4)).block, (ad.add (k * 4)).off + 1, none⟩ = some (.int .i64 qb) /\ X.cell? ⟨(ad.add (k * 4)).block, (ad.add (k * 4)).off + 2, none⟩ = some (.int .i64 qc) /\ X.cell? ⟨(ad.add (k * 4)).block, (ad.add (k * 4)).off + 3, none⟩ = some (.int .i64 qd')) (first | exact S0 | exact S1 | exact hfin.1)
    (first
     | (refine step_append_lies _ rfl _ _ 77 rfl w1.heap.size 80 i0 (.agg #[.int .i64 0, .int .i64 0, .int .i64 0, .int .i64 0]) 4 32 Tryz.underlying77 hin hz0 hz1 hz2 rfl (by decide) u10 k (qcells (xs.take k)) rfl (HOWN1.out _ HBN.out) ⟨wr.heap.size, 0, none⟩ 1 1 [.int .i64 qa, .int .i64 qb, .int .i64 qc, .int .i64 qd'] rfl rfl HNEWS.out HONE.out (by decide) c3 c4 C5.out _ rfl ?_; intro g cp w2 hown2 hgrow2 hor2 hlt2; have hfin := HFIN.out g cp w2 hown2 hgrow2; clear hown2 hgrow2 hor2 hlt2))
   have HF2 := Lib.hid hfin.2
   clear hfin S0 S1 HFIN HNEWS HONE HBN HOWN1
   go_wp2
   go_roundw
   case rel => exact ⟨k + 1, by omega, by go_num, HF2.out.1, HF2.out.2⟩
   case measure => simp [intOf]; omega
  ·obtain rfl : xs.length = k := by omega
   rw [List.take_length] at hrow
   have hws := hb2.size
   have hqs := quads_row hrow (fun i hi => by
    obtain ⟨ad, -, h2⟩ := HX.out i hi
    exact h2.ok)
   obtain ⟨a2, c2, rfl, hqq⟩ := hqs
   have hSr := HS.out.new hb2
   have HF := Lib.hid (functions_any hSr (good_nil vars) hv0 hv6 rfl xs a cap (fun i hi => by
    obtain ⟨ad, h1, h2⟩ := HX.out i hi
    exact ⟨ad, h1, h2.below (HB1.out.trans (hb2.mono hw1)) h2.lt, fun ho => by have := HO.out _ ho; have := h2.lt; omega⟩) hxl (by simp; omega) (by omega))
   have HQ : Hid (∀ O2 W, Moves O O2 wr W -> ∀ i, i < xs.length -> ∃ ad, a2 = some ad /\ QuadAt W ad i (qd xs i)) := fun O2 W hm i hi => by
    obtain ⟨ad, h1, h2⟩ := hqq i hi
    refine ⟨ad, h1, h2.kept hm.kept (fun ho => ?_)⟩
    have h3 := (HS.out.own _ ho).2
    have h4 : w1.heap.size <= ad.block := by
     rcases hrow.2 with ⟨e, -⟩ | ⟨g, cp, cur, e, h5, -⟩
     ·rw [h1] at e; simp at e
     ·rw [h1] at e; simp at e; rw [e.1]; exact h5
    omega
   have HBR := Lib.hid hb2
   clear hrow hSr hqq hb2 HX
   go_wp2_with fail
   refine HF.out.mono ?_
   rintro e w2 ⟨a3, c3, O2, rfl, hF⟩
   have HT := Lib.hid (tables_any vars hv0 hv6 xs a2 c2 w2 (HQ.out _ _ hF.moves) hxl)
   obtain ⟨ga, rfl, hIA, -⟩ := ints_of_row hF.row HNE.out HI64.out
   have HSP := Lib.hid hF.space
   have HIA := Lib.hid hIA
   have hb2 : Below w.heap.size w w2 := (HB1.out.trans (HBR.out.mono hw1)).trans (hF.moves.below (by omega) HO.out)
   have HB2 := Lib.hid hb2
   clear HF hF hIA hb2 HQ
   go_wp2_with fail
   refine HT.out.mono ?_
   rintro e w3 ⟨tv, gs, rfl, hT, hb3⟩
   have hfin : MadeSt w vars xs w3 s b O2 ga tv gs := ⟨HSP.out.new hb3, intsKept HIA.out hb3, hT.base HB2.out.size, HB2.out.trans (hb3.mono HB2.out.size)⟩
   obtain ⟨tg, tc, rfl, -⟩ := hT.form (by rw [hT.len, List.length_map, funT_len]; simp; omega)
   have HFIN := Lib.hid hfin
   clear HT hT hb3 hfin HSP HIA HNE HI64
   go_wp2
   refine bodyPost_ret (v := .tuple #[.pointer (some ⟨s, 0, none⟩), .slice (some ⟨ga, 0, none⟩) (funF vars ([], [0, 1]) xs).2.length c3, .slice (some ⟨tg, 0, none⟩) gs.length tc, .bool true]) (by simp [results, Tryz.results8, go_sem]) rfl ⟨s, b, O2, ga, c3, _, gs, rfl, HFIN.out⟩
end
section
open Go.RowKit Go.Maps
section
variable {vars : Nat} {ns : List Nd}
theorem ways_sides (hg : Good vars ns) (h24 : vars <= 24) {h : Int} {v : Nat} (hh : hasB ns h = true) (hv : v < vars) (ht : (v : Int) <= topOf ns h) :
  waysN vars ns h v = waysN vars ns (loS ns h v) (v + 1) + waysN vars ns (hiS ns h v) (v + 1) := by
 have hl := (loS_has hg.ranked (v := (v : Int)) (by omega) hh).2.1 ht
 have hi := (hiS_has hg.ranked (v := (v : Int)) (by omega) hh).2.1 ht
 have sl := sem_from hg (h := loS ns h v) (v := v + 1) (by omega)
 have si := sem_from hg (h := hiS ns h v) (v := v + 1) (by omega)
 unfold waysN
 rw [show vars - v = (vars - (v + 1)) + 1 by omega]
 rw [cntV]
 have e1 : cntV (vars - (v + 1)) (v + 1) (sem ns h) (turn (fun _ => false) v false) = cntV (vars - (v + 1)) (v + 1) (sem ns (loS ns h v)) (turn (fun _ => false) v false) :=
  cntV_congr _ _ _ (fun f' hf => by
   have : f' v = false := by rw [hf v (by omega), turnV_at]
   rw [sem_sides (v := (v : Int)) hg.ranked (by omega) f', Int.toNat_natCast, this]; rfl)
 have e2 : cntV (vars - (v + 1)) (v + 1) (sem ns h) (turn (fun _ => false) v true) = cntV (vars - (v + 1)) (v + 1) (sem ns (hiS ns h v)) (turn (fun _ => false) v true) :=
  cntV_congr _ _ _ (fun f' hf => by
   have : f' v = true := by rw [hf v (by omega), turnV_at]
   rw [sem_sides (v := (v : Int)) hg.ranked (by omega) f', Int.toNat_natCast, this]; rfl)
 rw [e1, e2, cntV_any _ (v + 1) sl (turn (fun _ => false) v false) (fun _ => false) (fun i hi => turnV_ne _ _ (by omega)),
  cntV_any _ (v + 1) si (turn (fun _ => false) v true) (fun _ => false) (fun i hi => turnV_ne _ _ (by omega))]
def kthH (vars : Nat) (ns : List Nd) : Nat -> Nat -> Int -> Nat -> Nat
 | 0, _, _, _ => 0
 | d + 1, v, h, k => if k < waysN vars ns (loS ns h v) (v + 1) then kthH vars ns d (v + 1) (loS ns h v) k else 2 ^ v + kthH vars ns d (v + 1) (hiS ns h v) (k - waysN vars ns (loS ns h v) (v + 1))
theorem bits_low {y v m : Nat} (hy : y < 2 ^ v) (i : Nat) (hi : i < v) : bitsF (y + 2 ^ v * m) i = bitsF y i := by
 unfold bitsF
 rw [Nat.add_comm, Nat.testBit_two_pow_mul_add _ hy, if_pos hi]
theorem bits_over {y v i : Nat} (hy : y < 2 ^ v) (hi : v <= i) : bitsF y i = false :=
 Nat.testBit_lt_two_pow (Nat.lt_of_lt_of_le hy (Nat.pow_le_pow_right (by omega) hi))
theorem bits_up {y v : Nat} (hy : y < 2 ^ v) : bitsF (y + 2 ^ v) v = true := by
 unfold bitsF
 rw [show y + 2 ^ v = 2 ^ v * 1 + y by omega, Nat.testBit_two_pow_mul_add _ hy, if_neg (by omega)]
 simp
end
end
end Go.Proofs.YtcjjekhecjmaeaaGreatDoor
