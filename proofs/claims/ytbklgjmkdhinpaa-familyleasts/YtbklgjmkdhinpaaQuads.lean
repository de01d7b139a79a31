/- A list of structs of four ints, as an argument. -/
import Derived.Test.YtbklgjmkdhinpaaFmOne
import Derived.Test.YtbklgjmkdhinpaaFmSetsP
import Derived.Deep.Slices
import Derived.Lib.SmallJoins
set_option maxHeartbeats 2000000
set_option maxRecDepth 100000
namespace Go.Proofs.Ytbklgjmkdhinpaa.Fm
open Go.RowKit Go.Maps Go.Proofs.Ytbklgjmkdhinpaa.Bd
def hiB (x u : Nat) : Nat := (x >>> u) <<< u
theorem hiB_bit (x u i : Nat) : (hiB x u).testBit i = (decide (u <= i) && x.testBit i) := by
 unfold hiB
 rw [Nat.testBit_shiftLeft]
 by_cases h : u <= i
 ·simp [h, Nat.testBit_shiftRight]
 ·simp [h]
theorem hiB_all (x : Nat) : hiB x 0 = x := by unfold hiB; simp
theorem hiB_none {x u : Nat} (h : x < 2 ^ u) : hiB x u = 0 := by unfold hiB; rw [Nat.shiftRight_eq_div_pow, Nat.div_eq_of_lt h]; simp
theorem hiB_off {x u : Nat} (h : x.testBit u = false) : hiB x u = hiB x (u + 1) := by
 apply Nat.eq_of_testBit_eq; intro i
 rw [hiB_bit, hiB_bit]
 by_cases e : i = u
 ·subst e; simp [h]
 ·have : decide (u <= i) = decide (u + 1 <= i) := by rw [decide_eq_decide]; omega
  rw [this]
theorem hiB_on {x u : Nat} (h : x.testBit u = true) (y : Nat) : (if y.testBit u = true then y ^^^ 2 ^ u = hiB x (u + 1) else False) ↔ y = hiB x u := by
 constructor
 ·intro hy
  split at hy
  ·rename_i hu
   rw [<- xor_back y u, hy]
   apply Nat.eq_of_testBit_eq; intro i
   rw [bit_x, hiB_bit, hiB_bit, hiB_bit]
   by_cases e : i = u
   ·subst e; simp [h]
   ·have : decide (u <= i) = decide (u + 1 <= i) := by rw [decide_eq_decide]; omega
    rw [if_neg e, this]
  ·exact hy.elim
 ·rintro rfl
  have hb : (hiB x u).testBit u = true := by rw [hiB_bit]; simp [h]
  rw [if_pos hb]
  apply Nat.eq_of_testBit_eq; intro i
  rw [bit_x, hiB_bit, hiB_bit, hiB_bit]
  by_cases e : i = u
  ·subst e; simp [h]
  ·have : decide (u <= i) = decide (u + 1 <= i) := by rw [decide_eq_decide]; omega
   rw [if_neg e, this]
def OneS (B : Nat) (c : Ctx) (O : Nat -> Prop) (vars : Nat) (ns : List Nd) (x : Nat) (w : World) (u : Nat) (h : Int) (wr : World) : Prop :=
 ∃ ns' O', u <= vars /\ CtxAt B wr c O' vars ns' /\ MM c O O' w wr /\ Ext ns ns' /\ hasB ns' h = true /\ (u : Int) <= topOf ns' h /\ (∀ y, In ns' h y ↔ y = hiB x u) /\ cntT vars ns' + u <= cntT vars ns + vars
section
variable {B s b : Nat} {c : Ctx} {O O' O'' : Nat -> Prop} {vars room : Nat} {ns : List Nd} {w w' w'' : World}
theorem ones_node {x u : Nat} {h : Int} (hroom : cntT vars ns + vars + 18 < c.room) (hS : OneS B c O vars ns x w (u + 1) h w') (hx : x.testBit u = true) :
  Calls Try.prog 86 #[.pointer (some ⟨c.wk, 0, none⟩), .int .i64 (u : Int), .agg #[.int .i64 0, .int .i64 h]] w' fun e w'' => ∃ h', e = .returned (.int .i64 h') /\ OneS B c O vars ns x w u h' w'' := by
 obtain ⟨ns', O', h1, hC, hM, hX, hh, ht, hm, hc⟩ := hS
 have hv24 := hC.v24
 have hcl := cnt_le hC.good
 have hl := hC.len
 have hrm := hC.rm
 have hmd := nodeZ_ok hC.good hv24 (v := (u : Int)) (l := 0) (h := h) (by omega) (by omega) (by omega) (by omega) (end_has0 ns') hh (by rw [end_top0]; omega) (by omega)
 refine (node_any hC (by omega) (u : Int) 0 h (by omega) (by omega) (end_has0 ns') hh (by rw [end_top0]; omega) (by omega)).mono ?_
 rintro e w5 ⟨rfl, O5, hS5, hM5⟩
 have hlen : (nodeZ ns' (u : Int) 0 h).1.length <= 4000 := by have := hmd.len; omega
 refine ⟨_, rfl, _, O5, by omega, hC.moved hS5 hM5 hmd.good hmd.ext hlen, hM.trans (MM.of_moves hM5), hX.trans hmd.ext, hmd.has, hmd.top, fun y => ?_, ?_⟩
 ·rw [hmd.mem y, <- hiB_on hx y]
  have tn : ((u : Int)).toNat = u := by omega
  rw [tn]
  split
  ·exact hm _
  ·exact ⟨fun h => in_zero _ h, fun h => h.elim⟩
 ·have := hmd.cnt
  split at this <;> omega
theorem ones_skip {x u : Nat} {h : Int} (hS : OneS B c O vars ns x w (u + 1) h w') (hx : x.testBit u = false) : OneS B c O vars ns x w u h w' := by
 obtain ⟨ns', O', h1, hC, hM, hX, hh, ht, hm, hc⟩ := hS
 exact ⟨ns', O', by omega, hC, hM, hX, hh, by omega, fun y => by rw [hiB_off hx]; exact hm y, by omega⟩
theorem one_c {wk : Nat} (hC : CtxAt B w c O vars ns) (hwk : c.wk = wk) (x : Nat) (hx : x < 2 ^ vars) (hroom : cntT vars ns + vars + 18 < c.room) :
  Calls Try.prog 64 #[.pointer (some ⟨wk, 0, none⟩), .int .u64 (x : Int)] w fun e w' => ∃ h, e = .returned (.int .i64 h) /\ OneS B c O vars ns x w 0 h w' := by
 subst hwk
 have w0 := hC.w0
 have c1 := hC.space.c1
 have hv24 := hC.v24
 have HC := Lib.hid hC
 clear hC
 go_enter Try.func64, Try.ntmps64
 go_wp2_with fail
 go_loopw [5, 6] (fun hV vV wr => ∃ (u : Nat) (h : Int), hV = .int .i64 h /\ vV = .int .i64 ((u : Int) - 1) /\ OneS B c O vars ns x w u h wr) (fun _ vV _ => (intOf vV + 1).toNat)
 case atStart =>
  exact ⟨vars, 1, rfl, rfl, ns, O, Nat.le_refl _, HC.out, MM.refl _ _ _, Ext.refl _, end_has1 ns, by rw [end_top1]; omega, fun y => by rw [hiB_none hx, in_one], Nat.le_refl _⟩
 case round =>
  obtain ⟨u, h, rfl, rfl, hS⟩ := hrel
  have hul : u <= vars := by obtain ⟨_, _, h1, _⟩ := hS; exact h1
  cases u with
  | zero =>
   have HS := Lib.hid hS
   clear hS
   go_wp2
   go_ret
   exact ⟨h, rfl, HS.out⟩
  | succ u =>
   have e1 : ((u + 1 : Nat) : Int) - 1 = (u : Int) := by omega
   rw [e1]
   have hx64 : x < 18446744073709551616 := Nat.lt_of_lt_of_le hx (Nat.le_trans (Nat.pow_le_pow_right (by omega) hv24) (by decide))
   have hsb := shr_bit x u hx64
   unfold bitsF at hsb
   have HS := Lib.hid hS
   clear hS e1
   cases hbit : x.testBit u with
   | true =>
    rw [hbit] at hsb
    have HN := Lib.hid (ones_node hroom HS.out hbit)
    clear hbit
    go_wp2_with fail
    refine HN.out.mono ?_
    rintro e w5 ⟨h', rfl, hS5⟩
    have HS5 := Lib.hid hS5
    clear hS5
    go_wp2
    go_roundw
    case rel => exact ⟨u, h', rfl, rfl, HS5.out⟩
    case measure => simp [intOf]
   | false =>
    rw [hbit] at hsb
    have HS5 := Lib.hid (ones_skip HS.out hbit)
    clear hbit
    go_wp2
    go_roundw
    case rel => exact ⟨u, h, rfl, rfl, HS5.out⟩
    case measure => simp [intOf]
theorem among_any {rom : Int} (hS : SpaceAt B w s b O vars rom ns) (hv24 : vars <= 24) (x : Nat) (hx : x < 2 ^ vars) :
  Calls Try.prog 48 #[.pointer (some ⟨s, 0, none⟩), .int .u64 (x : Int)] w fun e w' => e = .returned .nilIface /\ w = w' := by
 have c1 := hS.c1
 clear hS
 have e1 : (x : Int) / 2 ^ vars = 0 := by
  have e : (x : Int) / 2 ^ vars = ((x / 2 ^ vars : Nat) : Int) := by simp
  rw [e, Nat.div_eq_of_lt hx]; rfl
 go_enter Try.func48, Try.ntmps48
 go_wp2
 go_ret
 exact ⟨rfl, rfl⟩
def OneOut (B s b : Nat) (O : Nat -> Prop) (vars room : Nat) (ns : List Nd) (x : Nat) (w : World) (e : Ending) (w' : World) : Prop :=
 ∃ h ns' O', e = .returned (.tuple #[.int .i64 h, .nilIface]) /\ FamAt B w' s b O' vars room ns' /\ Mv O O' w w' /\ Ext ns ns' /\ hasB ns' h = true /\ (∀ y, In ns' h y ↔ y = x) /\ cntT vars ns' <= cntT vars ns + vars
theorem one_any (hS : FamAt B w s b O vars room ns) (x : Nat) (hx : x < 2 ^ vars) (hroom : cntT vars ns + vars + 18 < room) :
  Calls Try.prog 39 #[.pointer (some ⟨s, 0, none⟩), .int .u64 (x : Int)] w (OneOut B s b O vars room ns x w) := by
 have HA := Lib.hid (among_any hS.space hS.v24 x hx)
 have hb2 := below_new w (.cells #[.pointer (some ⟨s, 0, none⟩), .nilIface] 90)
 have hC2 := ctx_start hS
 have HC := Lib.hid hC2
 have HB := Lib.hid hb2
 clear hS hb2 hC2
 go_enter Try.func39, Try.ntmps39
 go_wp2_with fail
 refine HA.out.mono ?_
 rintro e w1 ⟨rfl, rfl⟩
 clear HA
 go_wp2_with fail
 generalize (w.alloc (.cells #[.pointer (some ⟨s, 0, none⟩), .nilIface] 90)) = W2 at *
 refine (one_c HC.out rfl x hx hroom).mono ?_
 rintro e w4 ⟨h, rfl, ns4, O4, -, hC4, hM4, hX4, hh4, -, hm4, hc4⟩
 go_wp2_with fail
 refine (answer_any hC4 rfl h).mono ?_
 rintro e w5 ⟨rfl, rfl⟩
 have hMv : Mv O O4 w w4 := by
  refine ⟨(Kept.of_below HB.out O).andThen hM4.kept (fun i hi hlt => ?_), fun i hi => ?_⟩
  ·rcases hi with hi | ⟨q, hq, rfl⟩
   ·exact hi
   ·cases hq
  ·rcases hM4.own i hi with h1 | h1
   ·exact .inl h1
   ·exact .inr (Nat.le_trans HB.out.size h1)
 have hF4 : FamAt B w4 s b O4 vars room ns4 := ⟨hC4.space, hC4.good, hC4.v24, hC4.rm, hC4.len, hC4.hB⟩
 rw [hiB_all] at hm4
 have HOUT : Hid (OneOut B s b O vars room ns x w (.returned (.tuple #[.int .i64 h, .nilIface])) w4) := ⟨h, ns4, O4, rfl, hF4, hMv, hX4, hh4, hm4, by omega⟩
 clear hC4 hM4 hX4 hh4 hm4 hc4 hMv hF4
 go_wp2
 go_ret2
 exact HOUT.out
end
end Go.Proofs.Ytbklgjmkdhinpaa.Fm
namespace Go.Proofs.Ytbklgjmkdhinpaa.Bd
open Go.ChangeShapes Go.WideShapes Go.ChangeAt Go.RowKit Go.Deep
def Quad.Ok (q : Quad) : Prop := I64 q.a /\ I64 q.b /\ I64 q.c /\ I64 q.d
def qd (xs : List Quad) (i : Nat) : Quad := xs.getD i ⟨0, 0, 0, 0⟩
structure QuadAt (w : World) (ad : Addr) (i : Nat) (q : Quad) : Prop where
 lt : ad.block < w.heap.size
 c0 : w.cell? (ad.add (i * 4)) = some (.int .i64 q.a)
 c1 : w.cell? ⟨(ad.add (i * 4)).block, (ad.add (i * 4)).off + 1, none⟩ = some (.int .i64 q.b)
 c2 : w.cell? ⟨(ad.add (i * 4)).block, (ad.add (i * 4)).off + 2, none⟩ = some (.int .i64 q.c)
 c3 : w.cell? ⟨(ad.add (i * 4)).block, (ad.add (i * 4)).off + 3, none⟩ = some (.int .i64 q.d)
 ok : q.Ok
def ArgQuads (w : World) (v : Value) (xs : List Quad) : Prop :=
 ∃ a cap, v = .slice a xs.length cap /\ ∀ i, i < xs.length -> ∃ ad, a = some ad /\ QuadAt w ad i (qd xs i)
theorem addr_block (a : Addr) (i : Nat) : (a.add i).block = a.block := by unfold Addr.add; split <;> rfl
theorem addr_more (a : Addr) (i j : Nat) (h : j ≠ 0) : a.add (i + j) = ⟨(a.add i).block, (a.add i).off + j, none⟩ := by
 unfold Addr.add
 rw [if_neg (by omega)]
 by_cases h0 : i = 0
 ·simp [h0]
 ·simp [h0, Nat.add_assoc]
theorem QuadAt.kept {S : Nat -> Prop} {w w' : World} {ad : Addr} {i : Nat} {q : Quad} (h : QuadAt w ad i q) (hk : Kept S w w') (hn : ¬ S ad.block) : QuadAt w' ad i q :=
 ⟨Nat.lt_of_lt_of_le h.lt hk.size, (hk.cell (by rw [addr_block]; exact h.lt) (by rw [addr_block]; exact hn)).trans h.c0, (hk.cell (by show (ad.add (i * 4)).block < _; rw [addr_block]; exact h.lt) (by show ¬ S (ad.add (i * 4)).block; rw [addr_block]; exact hn)).trans h.c1, (hk.cell (by show (ad.add (i * 4)).block < _; rw [addr_block]; exact h.lt) (by show ¬ S (ad.add (i * 4)).block; rw [addr_block]; exact hn)).trans h.c2, (hk.cell (by show (ad.add (i * 4)).block < _; rw [addr_block]; exact h.lt) (by show ¬ S (ad.add (i * 4)).block; rw [addr_block]; exact hn)).trans h.c3, h.ok⟩
theorem QuadAt.below {B : Nat} {w w' : World} {ad : Addr} {i : Nat} {q : Quad} (h : QuadAt w ad i q) (hb : Below B w w') (hB : ad.block < B) : QuadAt w' ad i q :=
 ⟨Nat.lt_of_lt_of_le h.lt hb.size, (hb.cell (by rw [addr_block]; exact hB)).trans h.c0, (hb.cell (by show (ad.add (i * 4)).block < _; rw [addr_block]; exact hB)).trans h.c1, (hb.cell (by show (ad.add (i * 4)).block < _; rw [addr_block]; exact hB)).trans h.c2, (hb.cell (by show (ad.add (i * 4)).block < _; rw [addr_block]; exact hB)).trans h.c3, h.ok⟩
theorem of_wf {x : Int} (h : (Lit.int .i64 x).wf = true) : I64 x := by
 simp [Lit.wf, IntKind.min, IntKind.max, IntKind.signed, IntKind.bits] at h
 exact ⟨by omega, by omega⟩
theorem cellsQuad : Try.prog.cellsOf 57 = 4 := by kernel_rfl
theorem argQuads {H : Type} {enc : TypeId × Value -> H} {W : World} {a0 : Option Addr} {len cap : Nat} {d : DataW H} {p : List MemPlace} (h : DataW.Trod enc Try.prog W 0 (fun _ => true) true 22 (.slice a0 len cap) d p) : ∃ xs : List Quad, ArgQuads W (.slice a0 len cap) xs /\ xs.length <= 9223372036854775807 := by
 obtain ⟨fuel, hf⟩ := h
 rcases open_slice Try.underlying22 hf with ⟨hcs, -⟩ | ⟨a, len', cap', m, n, D, Pl, hcs, _, hl, hm, hmm, -, hx⟩
 ·simp [Value.cells] at hcs
  obtain ⟨rfl, rfl, rfl⟩ := hcs
  exact ⟨[], ⟨none, 0, rfl, fun i hi => by simp at hi⟩, by simp⟩
 ·simp [Value.cells] at hcs
  obtain ⟨rfl, rfl, rfl⟩ := hcs
  simp only [if_true] at hmm
  subst hmm
  unfold maxLen at hm
  have each : ∀ i, i < m -> ∃ q : Quad, QuadAt W a i q := by
   intro i hi
   obtain ⟨cs', h1, h2⟩ := hx i hi
   rw [cellsQuad] at h1
   obtain ⟨_, hlen, hcell⟩ := World.cells?_some h1
   obtain ⟨y0, y1, y2, y3, k, -, hl4, g0, g1, g2, g3⟩ := Go.Joins.trod_struct4 Try.underlying57 h2
   match cs', hlen with
   | [v0, v1, v2, v3], _ =>
    simp [cellsInt] at g0 g1 g2 g3
    obtain ⟨z0, e0, -, w0⟩ := DataW.trod_int Try.underlying3 g0
    obtain ⟨z1, e1, -, w1⟩ := DataW.trod_int Try.underlying3 g1
    obtain ⟨z2, e2, -, w2⟩ := DataW.trod_int Try.underlying3 g2
    obtain ⟨z3, e3, -, w3⟩ := DataW.trod_int Try.underlying3 g3
    simp at e0 e1 e2 e3
    subst e0 e1 e2 e3
    have c0 := hcell 0 (by omega)
    have c1 := hcell 1 (by omega)
    have c2 := hcell 2 (by omega)
    have c3 := hcell 3 (by omega)
    rw [add_add] at c0 c1 c2 c3
    have hb := World.block_lt_of_cell? _ _ c0
    rw [addr_block] at hb
    exact ⟨⟨z0, z1, z2, z3⟩, hb, by simpa using c0, by rw [<- addr_more _ _ _ (by omega)]; exact c1, by rw [<- addr_more _ _ _ (by omega)]; exact c2, by rw [<- addr_more _ _ _ (by omega)]; exact c3, of_wf w0, of_wf w1, of_wf w2, of_wf w3⟩
  obtain ⟨q, hq⟩ := choose_lt (fun i hi => each i hi)
  have hlen : ((List.range len).map q).length = len := by simp
  refine ⟨(List.range len).map q, ⟨some a, m, by rw [hlen], fun i hi => ⟨a, rfl, ?_⟩⟩, by omega⟩
  rw [hlen] at hi
  have e : qd ((List.range len).map q) i = q i := by
   unfold qd; simp [List.getD_eq_getElem?_getD, hi]
  rw [e]; exact hq i (by omega)
end Go.Proofs.Ytbklgjmkdhinpaa.Bd
