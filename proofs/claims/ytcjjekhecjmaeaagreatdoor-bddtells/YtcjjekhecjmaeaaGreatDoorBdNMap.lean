/- Maps from handles to numbers of any size. -/
import Derived.Test.YtcjjekhecjmaeaaGreatDoorBdDone
import Derived.Test.YtcjjekhecjmaeaaGreatDoorErTell
set_option maxHeartbeats 4000000
set_option maxRecDepth 100000
namespace Go.Proofs.YtcjjekhecjmaeaaGreatDoor
section
open Go.RowKit Go.Maps
def JoinedAt (B s b dk : Nat) (D : Nat -> Prop) (st : World -> (Nat -> Prop) -> List (Nd × Int) -> Prop) (vars : Nat) (room : Int) (v : Int) (jf : Bool -> Bool -> Bool) (P : List Nd -> List (Nd × Int) -> Prop) (J : Join) (jv : Value) (d : Nat) : Prop :=
 ∀ (ns : List Nd) (m : List (Nd × Int)) (dn : List (Int × Int)) (x : Int) (O : Nat -> Prop) (w : World), JW B w s b dk O D st vars room v jf P ns m dn -> hasB ns x = true -> v < topOf ns x + d -> ((ns.length + 2 ^ ((vars : Int) - topOf ns x).toNat : Nat) : Int) <= room + 1 -> m.length + 2 ^ ((vars : Int) - topOf ns x).toNat <= 90000 -> dn.length + 2 ^ ((vars : Int) - topOf ns x).toNat <= 90000 ->
  Calls Tryz.prog 140 #[.pointer (some ⟨s, 0, none⟩), .int .i64 x, .int .i64 v, jv, .map (some dk)] w (JOut B s b dk O D st vars room v jf P (joinedF d J ns m dn x v) w)
theorem joinedF_rec {d : Nat} {J : Join} {ns : List Nd} {m : List (Nd × Int)} {dn : List (Int × Int)} {h v : Int} (h1 : ¬ v < topOf ns h) (h2 : ¬ topOf ns h = v) (hn : look dn h = none) :
  joinedF (d + 1) J ns m dn h v = ((nodeF (joinedF d J (joinedF d J ns m dn (nd ns (pl h)).l v).1 (joinedF d J ns m dn (nd ns (pl h)).l v).2.1 (joinedF d J ns m dn (nd ns (pl h)).l v).2.2.1 (nd ns (pl h)).h v).1 (topOf ns h) (joinedF d J ns m dn (nd ns (pl h)).l v).2.2.2 (joinedF d J (joinedF d J ns m dn (nd ns (pl h)).l v).1 (joinedF d J ns m dn (nd ns (pl h)).l v).2.1 (joinedF d J ns m dn (nd ns (pl h)).l v).2.2.1 (nd ns (pl h)).h v).2.2.2).1,
   (joinedF d J (joinedF d J ns m dn (nd ns (pl h)).l v).1 (joinedF d J ns m dn (nd ns (pl h)).l v).2.1 (joinedF d J ns m dn (nd ns (pl h)).l v).2.2.1 (nd ns (pl h)).h v).2.1,
   memoPut (joinedF d J (joinedF d J ns m dn (nd ns (pl h)).l v).1 (joinedF d J ns m dn (nd ns (pl h)).l v).2.1 (joinedF d J ns m dn (nd ns (pl h)).l v).2.2.1 (nd ns (pl h)).h v).2.2.1 h (nodeF (joinedF d J (joinedF d J ns m dn (nd ns (pl h)).l v).1 (joinedF d J ns m dn (nd ns (pl h)).l v).2.1 (joinedF d J ns m dn (nd ns (pl h)).l v).2.2.1 (nd ns (pl h)).h v).1 (topOf ns h) (joinedF d J ns m dn (nd ns (pl h)).l v).2.2.2 (joinedF d J (joinedF d J ns m dn (nd ns (pl h)).l v).1 (joinedF d J ns m dn (nd ns (pl h)).l v).2.1 (joinedF d J ns m dn (nd ns (pl h)).l v).2.2.1 (nd ns (pl h)).h v).2.2.2).2,
   (nodeF (joinedF d J (joinedF d J ns m dn (nd ns (pl h)).l v).1 (joinedF d J ns m dn (nd ns (pl h)).l v).2.1 (joinedF d J ns m dn (nd ns (pl h)).l v).2.2.1 (nd ns (pl h)).h v).1 (topOf ns h) (joinedF d J ns m dn (nd ns (pl h)).l v).2.2.2 (joinedF d J (joinedF d J ns m dn (nd ns (pl h)).l v).1 (joinedF d J ns m dn (nd ns (pl h)).l v).2.1 (joinedF d J ns m dn (nd ns (pl h)).l v).2.2.1 (nd ns (pl h)).h v).2.2.2).2) := by
 conv => lhs; unfold joinedF
 rw [if_neg h1, if_neg h2]; simp only; rw [hn]
section
variable {B s b dk : Nat} {O D : Nat -> Prop} {st : World -> (Nat -> Prop) -> List (Nd × Int) -> Prop} {vars : Nat} {room : Int} {v : Int} {jf : Bool -> Bool -> Bool} {P : List Nd -> List (Nd × Int) -> Prop} {ns : List Nd} {m : List (Nd × Int)} {dn : List (Int × Int)} {w : World} {J : Join} {jv : Value}
theorem getOf_node {ns : List Nd} {x : Int} (e : topOf ns x ≠ 24) : getOf ns x = nd ns (pl x) := by unfold getOf; rw [if_neg e]; rfl
theorem joined_look (hS : JSt dk D st) (h : JW B w s b dk O D st vars room v jf P ns m dn) (x y : Int) (hx : hasB ns x = true) (hl : ns.length <= 90000) (hv24 : v < 24) (hv : topOf ns x < v) (hin : (x, y) ∈ dn) :
  Calls Tryz.prog 140 #[.pointer (some ⟨s, 0, none⟩), .int .i64 x, .int .i64 v, jv, .map (some dk)] w (JOut B s b dk O D st vars room v jf P (ns, m, dn, y) w) := by
 have e : topOf ns x ≠ 24 := by omega
 have HG := Lib.hid (spGet h.space x (has_i64 hx (by omega)) hl)
 have hgv : (getOf ns x).v < v := by rw [getOf_node e, <- (node_at e).2.2.1]; exact hv
 have HL : Hid (∀ W, Below w.heap.size w W -> (Instr.lookup 147 (.map (some dk)) (.int .i64 x) true).run Tryz.prog W = .ok (.tuple #[.int .i64 y, .bool true]) W) := fun W hW => by
  obtain ⟨Dm, hDm, hR⟩ := (h.done.kept (Kept.of_below hW (fun _ => False)) (fun h => h)).hmap
  exact ilook_found hDm hR hin
 rw [show decide (topOf ns x ≠ 24) = true by simp [e]] at HG
 have c0 := h.space.c0
 have HW := Lib.hid h
 generalize getOf ns x = gn at *
 obtain ⟨gv, gl, gh⟩ := gn
 simp only at hgv
 unfold Nd.val at HG
 clear h e hv hin
 go_enter Tryz.func140, Tryz.ntmps140
 go_wp2_with fail
 refine HG.out.mono ?_
 rintro e w1 ⟨rfl, hb1⟩
 have hb2 := hb1.alloc hb1.size (.cells #[.int .i64 gv, .int .i64 gl, .int .i64 gh] 102)
 obtain ⟨x0, x1, x2, -⟩ := cell3 w1 (.int .i64 gv) (.int .i64 gl) (.int .i64 gh) 102
 have hrun := HL.out _ hb2
 have HB2 := Lib.hid hb2
 clear HG HL hb2
 go_wp2
 go_ret2
 exact ⟨rfl, O, HW.out.new hS HB2.out, MJ.of_below HB2.out⟩
theorem joined_rec (hS : JSt dk D st) (hJ : JoinOk vars v jf P J) (hroom : room <= 4000) (d : Nat) (ih : JoinedAt B s b dk D st vars room v jf P J jv d) (h : JW B w s b dk O D st vars room v jf P ns m dn) (x : Int) (hx : hasB ns x = true) (hd : v < topOf ns x + (d + 1 : Nat)) (hl : ((ns.length + 2 ^ ((vars : Int) - topOf ns x).toNat : Nat) : Int) <= room + 1) (hml : m.length + 2 ^ ((vars : Int) - topOf ns x).toNat <= 90000) (hdl : dn.length + 2 ^ ((vars : Int) - topOf ns x).toNat <= 90000)
  (hv0 : 0 <= v) (hv24 : v < 24) (hv : topOf ns x < v) (hn : look dn x = none) :
  Calls Tryz.prog 140 #[.pointer (some ⟨s, 0, none⟩), .int .i64 x, .int .i64 v, jv, .map (some dk)] w (JOut B s b dk O D st vars room v jf P (joinedF (d + 1) J ns m dn x v) w) := by
 have e : topOf ns x ≠ 24 := by omega
 have hr := h.good.ranked
 have hk := kids hr e
 have htv := top_vars h.good e
 have ht0 := (topOf_le hr x).1
 have hone := Nat.one_le_two_pow (n := ((vars : Int) - topOf ns x).toNat)
 have hi64 := has_i64 hx (by omega)
 have hnk := look_no hn
 have hpow : 2 ^ ((vars : Int) - topOf ns x).toNat = 2 ^ (((vars : Int) - topOf ns x).toNat - 1) + 2 ^ (((vars : Int) - topOf ns x).toNat - 1) := by
  obtain ⟨q, hq⟩ : ∃ q, ((vars : Int) - topOf ns x).toNat = q + 1 := ⟨((vars : Int) - topOf ns x).toNat - 1, by omega⟩
  rw [hq, Nat.add_sub_cancel, Nat.pow_succ]; omega
 have pge := Nat.one_le_two_pow (n := ((vars : Int) - topOf ns x).toNat - 1)
 have p1 : 2 ^ ((vars : Int) - topOf ns (nd ns (pl x)).l).toNat <= 2 ^ (((vars : Int) - topOf ns x).toNat - 1) := Nat.pow_le_pow_right (by omega) (by omega)
 have hall := joined_ok hJ hv0 hv24 (d + 1) ns m dn x h.good h.memo h.ok hx hd (by omega)
 rw [joinedF_rec (by omega) (by omega) hn] at hall ⊢
 have i1 := joined_ok hJ hv0 hv24 d ns m dn (nd ns (pl x)).l h.good h.memo h.ok hk.2.1 (by omega) (by omega)
 have C1 := ih ns m dn (nd ns (pl x)).l O
 generalize joinedF d J ns m dn (nd ns (pl x)).l v = r1 at *
 have th : topOf r1.1 (nd ns (pl x)).h = topOf ns (nd ns (pl x)).h := i1.ext.top _ hk.2.2.2
 have p2 : 2 ^ ((vars : Int) - topOf r1.1 (nd ns (pl x)).h).toNat <= 2 ^ (((vars : Int) - topOf ns x).toNat - 1) := Nat.pow_le_pow_right (by omega) (by rw [th]; omega)
 have l1 := i1.len
 have m1 := i1.mlen
 have d1 := i1.dlen
 have hh1 := i1.ext.has _ hk.2.2.2
 have i2 := joined_ok hJ hv0 hv24 d r1.1 r1.2.1 r1.2.2.1 (nd ns (pl x)).h i1.good i1.memo i1.done hh1 (by rw [th]; omega) (by omega)
 have C2 := fun O' => ih r1.1 r1.2.1 r1.2.2.1 (nd ns (pl x)).h O'
 generalize joinedF d J r1.1 r1.2.1 r1.2.2.1 (nd ns (pl x)).h v = r2 at *
 have l2 := i2.len
 have m2 := i2.mlen
 have d2 := i2.dlen
 have h1' := i2.ext.has _ i1.has
 have t1' : topOf r2.1 r1.2.2.2 = topOf r1.1 r1.2.2.2 := i2.ext.top _ i1.has
 have i3 := nodeF_ok i2.good (v := topOf ns x) (l := r1.2.2.2) (h := r2.2.2.2) (by omega) ht0 (by omega) htv h1' i2.has (by rw [t1']; have := i1.top; omega) (by have := i2.top; rw [th] at this; omega)
 have HC1 : Hid (∀ W, Below w.heap.size w W -> Calls Tryz.prog 140 #[.pointer (some ⟨s, 0, none⟩), .int .i64 (nd ns (pl x)).l, .int .i64 v, jv, .map (some dk)] W (JOut B s b dk O D st vars room v jf P r1 W)) := fun W hW => C1 W (h.new hS hW) hk.2.1 (by omega) (by omega) (by omega) (by omega)
 have HC2 : Hid (∀ O' W, JW B W s b dk O' D st vars room v jf P r1.1 r1.2.1 r1.2.2.1 -> Calls Tryz.prog 140 #[.pointer (some ⟨s, 0, none⟩), .int .i64 (nd ns (pl x)).h, .int .i64 v, jv, .map (some dk)] W (JOut B s b dk O' D st vars room v jf P r2 W)) := fun O' W hW => C2 O' W hW hh1 (by rw [th]; omega) (by omega) (by omega) (by omega)
 have HC3 : Hid (∀ O' W, SpaceAt B W s b O' vars room r2.1 -> B <= W.heap.size -> Calls Tryz.prog 96 #[.pointer (some ⟨s, 0, none⟩), .int .i64 (topOf ns x), .int .i64 r1.2.2.2, .int .i64 r2.2.2.2] W fun e w' => e = .returned (.tuple #[.int .i64 (nodeF r2.1 (topOf ns x) r1.2.2.2 r2.2.2.2).2, .nilIface]) /\ ∃ O'', SpaceAt B w' s b O'' vars room (nodeF r2.1 (topOf ns x) r1.2.2.2 r2.2.2.2).1 /\ Moves O' O'' W w') := fun O' W hW hBW =>
  node_any hW (by omega) (by omega) hBW (topOf ns x) r1.2.2.2 r2.2.2.2 ht0 (by omega) h1' i2.has (by rw [t1']; have := i1.top; omega) (by have := i2.top; rw [th] at this; omega)
 generalize nodeF r2.1 (topOf ns x) r1.2.2.2 r2.2.2.2 = r3 at *
 have HI2 := Lib.hid i2
 have HI3 := Lib.hid i3
 have HALL := Lib.hid hall
 have hdl2 : r2.2.2.1.length <= 90000 := by omega
 have HG := Lib.hid (spGet h.space x hi64 (by omega))
 have hgv : (getOf ns x).v = topOf ns x := by rw [getOf_node e]; exact (node_at e).2.2.1.symm
 have HL : Hid (∀ W, Below w.heap.size w W -> (Instr.lookup 147 (.map (some dk)) (.int .i64 x) true).run Tryz.prog W = .ok (.tuple #[.int .i64 0, .bool false]) W) := fun W hW => by
  obtain ⟨Dm, hDm, hR⟩ := (h.done.kept (Kept.of_below hW (fun _ => False)) (fun h => h)).hmap
  exact ilook_none hDm hR hi64 hnk
 rw [show decide (topOf ns x ≠ 24) = true by simp [e]] at HG
 rw [<- getOf_node e] at HC1 HC2
 have c0 := h.space.c0
 have HW := Lib.hid h
 have HX := Lib.hid hi64
 clear C1 C2 i1 i2 i3 hall hpow pge p1 th p2 l1 m1 d1 l2 m2 d2 h1' t1' hh1 hone hk ih hJ hnk hn
 generalize topOf ns x = tx at *
 generalize getOf ns x = gn at *
 obtain ⟨gv, gl, gh⟩ := gn
 simp only at hgv HC1 HC2
 subst hgv
 unfold Nd.val at HG
 clear h e
 go_enter Tryz.func140, Tryz.ntmps140
 go_wp2_with fail
 refine HG.out.mono ?_
 rintro e w1 ⟨rfl, hb1⟩
 have hb2 := hb1.alloc hb1.size (.cells #[.int .i64 gv, .int .i64 gl, .int .i64 gh] 102)
 have TB := Lib.hid (tri_new w1 gv gl gh 102)
 obtain ⟨x0, x1, x2, -⟩ := cell3 w1 (.int .i64 gv) (.int .i64 gl) (.int .i64 gh) 102
 have hrun := HL.out _ hb2
 have HB2 := Lib.hid hb2
 have HC1' := Lib.hid (HC1.out _ hb2)
 have hs1 := hb1.size
 have hl1 : w1.heap.size < (w1.alloc (.cells #[.int .i64 gv, .int .i64 gl, .int .i64 gh] 102)).heap.size := by simp
 have ob : ∀ j, O j \/ D j \/ j = dk -> j < w.heap.size := fun j hj => by
  rcases hj with hj | hj | hj
  ·exact (HW.out.space.own j hj).2
  ·exact (hS.own _ _ _ HW.out.st j hj).1
  ·rw [hj]; exact HW.out.done.lt
 have OB := Lib.hid ob
 clear HG HL HC1 hb2 hb1 ob
 go_wp2_with fail
 refine HC1'.out.mono ?_
 rintro e w7 ⟨rfl, O1, hw7, mm7⟩
 have hs7 := mm7.size
 have tb7 : Tri w7 w1.heap.size gv gl gh := TB.out.kept mm7.kept (fun ho => by have := OB.out _ ho; omega)
 have z1 := tb7.c2
 have HC2' := Lib.hid (HC2.out O1 w7 hw7)
 have T7 := Lib.hid tb7
 have HM7 := Lib.hid mm7
 have HW7 := Lib.hid hw7
 clear HC1' HC2 TB tb7 mm7 hw7 x0 x1 x2 hrun
 go_wp2_with fail
 refine HC2'.out.mono ?_
 rintro e w8 ⟨rfl, O2, hw8, mm8⟩
 have hs8 := mm8.size
 have o17 : ¬ O1 w1.heap.size := HM7.out.beside (by omega) (fun h => by have := OB.out _ (.inl h); omega)
 have tb8 : Tri w8 w1.heap.size gv gl gh := T7.out.kept mm8.kept (fun ho => by
  rcases ho with ho | ho
  ·exact o17 ho
  ·have := OB.out _ (.inr ho); omega)
 have o28 : ¬ O2 w1.heap.size := mm8.beside (by omega) o17
 have z2 := tb8.c0
 have HC3' := Lib.hid (HC3.out O2 w8 hw8.space hw8.hB)
 have HM8 := Lib.hid (HM7.out.trans mm8)
 have HW8 := Lib.hid hw8
 clear HC2' HC3 T7 HM7 tb8 mm8 hw8 z1
 go_wp2_with fail
 refine HC3'.out.mono ?_
 rintro e w9 ⟨rfl, O3, hs9, mv9⟩
 have hw8 := HW8.out
 have dn9 := hw8.done.kept mv9.kept hw8.o
 obtain ⟨Dm, hDm, hR⟩ := dn9.hmap
 obtain ⟨w10, D', hrun, hD', hR', hK⟩ := istore hDm hR (by omega) HX.out (x := r3.2) HI3.out.i64
 have o39 : ¬ O3 dk := mv9.beside hw8.done.lt hw8.o
 have hfin : JW B w10 s b dk O3 D st vars room v jf P r3.1 r2.2.1 (memoPut r2.2.2.1 x r3.2) :=
  ⟨hs9.kept hK (fun j ho e => o39 (e ▸ ho)) hw8.sk, hS.beside _ _ _ _ (hS.moves _ _ _ _ _ hw8.st mv9) hK, ⟨D', hD', hR'⟩, HALL.out.good, HALL.out.memo, HALL.out.done, o39, hw8.sk, hw8.Dk, hw8.Ds, by have := hw8.hB; have := mv9.size; have := hK.size; omega⟩
 have hmm : MJ O O3 D dk w w10 := by
  have h1 : MJ O O3 D dk w w9 := ((MJ.of_below HB2.out).trans HM8.out).trans (MJ.of_moves mv9)
  have h2 : MJ O3 O3 D dk w9 w10 := ⟨hK.mono (fun j hj => .inr (.inr hj)), fun _ h => .inl h⟩
  exact h1.trans h2
 have HFIN := Lib.hid hfin
 have HMM := Lib.hid hmm
 clear HC3' HM8 HW8 hs9 mv9 hw8 dn9 hDm hR hD' hR' hK hfin hmm HALL z2 HI2 HI3
 go_wp2
 go_ret2
 exact ⟨rfl, O3, HFIN.out, HMM.out⟩
theorem joined_any {F : FuncId} {pre caps : Array Value} (hS : JSt dk D st) (hJ : JoinOk vars v jf P J) (hD : JoinDoes B s b D st vars room v P J F pre caps) (hroom : room <= 4000) (hv0 : 0 <= v) (hv24 : v < 24) : ∀ d, JoinedAt B s b dk D st vars room v jf P J (.func (.func F) pre caps) d
 | 0 => fun ns m dn x O w h hx hd hl _ _ => by
  have := Nat.one_le_two_pow (n := ((vars : Int) - topOf ns x).toNat)
  exact joined_above hS h x hx (by omega) (by omega) _
 | d + 1 => fun ns m dn x O w h hx hd hl hm hn => by
  have hone := Nat.one_le_two_pow (n := ((vars : Int) - topOf ns x).toNat)
  by_cases c1 : v < topOf ns x
  ·have e : joinedF (d + 1) J ns m dn x v = (ns, m, dn, x) := by unfold joinedF; rw [if_pos c1]
   rw [e]; exact joined_above hS h x hx (by omega) c1 _
  by_cases c2 : topOf ns x = v
  ·have e : joinedF (d + 1) J ns m dn x v = ((J ns m (nd ns (pl x)).l (nd ns (pl x)).h).1, (J ns m (nd ns (pl x)).l (nd ns (pl x)).h).2.1, dn, (J ns m (nd ns (pl x)).l (nd ns (pl x)).h).2.2) := by unfold joinedF; rw [if_neg c1, if_pos c2]
   have hp : 2 ^ ((vars : Int) - v - 1).toNat <= 2 ^ ((vars : Int) - topOf ns x).toNat := Nat.pow_le_pow_right (by omega) (by omega)
   rw [e]; exact joined_at hS hJ hD h x hx hroom (by omega) (by omega) hv24 c2
  cases e2 : look dn x with
  | some y =>
   have e : joinedF (d + 1) J ns m dn x v = (ns, m, dn, y) := by unfold joinedF; rw [if_neg c1, if_neg c2]; simp only; rw [e2]
   rw [e]; exact joined_look hS h x y hx (by omega) hv24 (by omega) (look_mem e2)
  | none => exact joined_rec hS hJ hroom d (joined_any hS hJ hD hroom hv0 hv24 d) h x hx hd hl hm hn hv0 hv24 (by omega) e2
end
end
section
open Go.RowKit Go.Maps
structure NV where
 a : Option Addr
 n : Nat
 c : Nat
def NV.val (x : NV) : Value := .agg #[.slice x.a x.n x.c]
def NV.dat (x : NV) : DataW Unit :=
 match x.a with
 | none => .agg [.lit (.int .i64 x.n), .lit (.int .i64 x.c)]
 | some ⟨b, o, none⟩ => .agg [.lit (.int .i64 x.n), .lit (.int .i64 x.c), .lit (.int .i64 b), .lit (.int .i64 o)]
 | some ⟨b, o, some s⟩ => .agg [.lit (.int .i64 x.n), .lit (.int .i64 x.c), .lit (.int .i64 b), .lit (.int .i64 o), .lit (.int .i64 s)]
theorem NV.dat_inj {x y : NV} (h : x.dat = y.dat) : x = y := by
 obtain ⟨a, n, c⟩ := x
 obtain ⟨b, m, d⟩ := y
 rcases a with _ | ⟨ab, ao, _ | sa⟩ <;> rcases b with _ | ⟨bb, bo, _ | sb⟩ <;> simp [NV.dat] at h ⊢ <;> omega
def natR (v : Value) : Option (DataW Unit × List MemPlace) :=
 match v with
 | .agg cs =>
  match cs.toList with
  | [.slice a n c] => some (NV.dat ⟨a, n, c⟩, [])
  | _ => none
 | _ => none
theorem natR_val (x : NV) : natR x.val = some (x.dat, []) := rfl
theorem natR_inv {v : Value} {x : NV} {ps : List MemPlace} (h : natR v = some (x.dat, ps)) : v = x.val := by
 unfold natR at h
 split at h
 ·rename_i cs
  split at h
  ·rename_i a n c e
   simp only [Option.some.injEq, Prod.mk.injEq] at h
   rw [<- NV.dat_inj h.1]
   have : cs = #[.slice a n c] := by cases cs; simp at e; rw [e]
   rw [this]; rfl
  ·cases h
 ·cases h
theorem zeroNat (w : World) : (zeroValue 30).run Tryz.prog w = .ok (.agg #[.slice none 0 0]) w := by kernel_rfl
def NRep (D : DataW Unit) (L : List (Int × NV)) : Prop := Rep I64 (fun x => Lit.int .i64 x) NV.dat D L
section
variable {w : World} {bm n : Nat} {D : DataW Unit} {L : List (Int × NV)}
theorem nlook_found (hD : w.ownsMap Tryz.prog 3 natR bm n D) (hR : NRep D L) {p : Int × NV} (hp : p ∈ L) :
  (Instr.lookup 85 (.map (some bm)) (.int .i64 p.1) true).run Tryz.prog w = .ok (.tuple #[p.2.val, .bool true]) w := by
 obtain ⟨v, ps, hrun, hv⟩ := hD.look_ok lawI Tryz.underlying85 (zeroNat w) (natR_val ⟨none, 0, 0⟩) (keyI (Rep.oks hR p hp))
 rw [Rep.at' hR p hp] at hv
 rw [(Rep.has hR p.1 (Rep.oks hR p hp)).2 (List.mem_map_of_mem hp), natR_inv hv] at hrun
 exact hrun
theorem nlook_none (hD : w.ownsMap Tryz.prog 3 natR bm n D) (hR : NRep D L) {a : Int} (ha : I64 a) (hn : a ∉ L.map Prod.fst) :
  (Instr.lookup 85 (.map (some bm)) (.int .i64 a) true).run Tryz.prog w = .ok (.tuple #[.agg #[.slice none 0 0], .bool false]) w := by
 obtain ⟨v, ps, hrun, hv⟩ := hD.look_ok lawI Tryz.underlying85 (zeroNat w) (natR_val ⟨none, 0, 0⟩) (keyI ha)
 have hh := Rep.not hR ha hn
 rw [atKey_of_not_has hh] at hv
 rw [hh, natR_inv hv] at hrun
 exact hrun
end
end
end Go.Proofs.YtcjjekhecjmaeaaGreatDoor
