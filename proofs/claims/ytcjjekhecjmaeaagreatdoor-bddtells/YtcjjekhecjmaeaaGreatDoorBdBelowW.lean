/- below: the walk of a node that is not counted yet. -/
import Derived.Test.YtcjjekhecjmaeaaGreatDoorBdBelow
import Derived.Test.YtcjjekhecjmaeaaGreatDoorBdRec
import Derived.Test.YtcjjekhecjmaeaaGreatDoorBdNMap
set_option maxHeartbeats 4000000
set_option maxRecDepth 100000
namespace Go.Proofs.YtcjjekhecjmaeaaGreatDoor
section
open Go.RowKit Go.Maps Num
section
variable {w w' : World} {dk vars : Nat} {ns : List Nd} {L : List (Int × NV)}
theorem done_put (hD : DoneN w dk vars ns L) {a : Int} (ha : I64 a) (ht : topOf ns a ≠ 24) (x : NV) (hx : NatAt w x.val (belowN vars ns a)) (hl : ns.length <= 90000) :
  ∃ w' L', (Instr.mapUpdate 85 (.map (some dk)) (.int .i64 a) x.val).run Tryz.prog w = .ok () w' /\ DoneN w' dk vars ns L' /\ Kept (fun j => j = dk) w w' := by
 have hlen := hD.len
 obtain ⟨D, hDm, hR⟩ := hD.hmap
 obtain ⟨w', hrun, h1, h2⟩ := hDm.update lawI Tryz.underlying85 (by unfold maxLen; omega) (keyI ha) (natR_val x)
 have hk : Kept (fun k => k = dk) w w' := Kept.of_grown h2 (fun i h => by cases h; rfl)
 have hno : ∀ b o n, b = dk -> w.cell? ⟨b, o, Option.none⟩ ≠ some (.int .u64 n) := fun b o n e => hD.no b o n e
 by_cases hm : a ∈ L.map Prod.fst
 ·have hR' : NRep (D.put (.int .i64 a) x.dat) (L.map fun q => if q.1 = a then (q.1, x) else q) := Rep.put_over hR (fun a b _ _ e => by injection e) (fun _ => trivial) x hm
  refine ⟨w', _, hrun, ⟨⟨_, hR'.size ▸ ownsMap_norm h1, hR'⟩, fun p hp => ?_, fun p hp => ?_⟩, hk⟩
  ·obtain ⟨q, hq, rfl⟩ := List.mem_map.1 hp
   split
   ·exact hD.keys q hq
   ·exact hD.keys q hq
  ·obtain ⟨q, hq, rfl⟩ := List.mem_map.1 hp
   split
   ·rename_i e
    show NatAt w' x.val (belowN vars ns q.1)
    rw [e]; exact hx.kept hk hno
   ·exact (hD.nums q hq).kept hk hno
 ·have hR' : NRep (D.put (.int .i64 a) x.dat) (L ++ [(a, x)]) := Rep.put hR (fun a b _ _ e => by injection e) (fun _ => trivial) ha hm x
  refine ⟨w', _, hrun, ⟨⟨_, hR'.size ▸ ownsMap_norm h1, hR'⟩, fun p hp => ?_, fun p hp => ?_⟩, hk⟩
  ·rcases List.mem_append.1 hp with h | h
   ·exact hD.keys p h
   ·rw [List.mem_singleton] at h; subst h; exact ht
  ·rcases List.mem_append.1 hp with h | h
   ·exact (hD.nums p h).kept hk hno
   ·rw [List.mem_singleton] at h; subst h; exact hx.kept hk hno
end
structure BoxAt (w : World) (bx : Nat) : Prop where
 lt : bx < w.heap.size
 c : w.cell? ⟨bx, 0, none⟩ = some (.slice none 0 0)
 f : w.frozen? ⟨bx, 0, none⟩ = false
 no : ∀ o n, w.cell? ⟨bx, o, none⟩ ≠ some (.int .u64 n)
theorem BoxAt.kept {S : Nat -> Prop} {w w' : World} {bx : Nat} (h : BoxAt w bx) (hk : Kept S w w') (hn : ¬ S bx) : BoxAt w' bx :=
 ⟨Nat.lt_of_lt_of_le h.lt hk.size, (hk.cell (a := ⟨bx, 0, none⟩) h.lt hn).trans h.c, (hk.frozen (a := ⟨bx, 0, none⟩) h.lt hn).trans h.f, fun o n => by rw [hk.cell (a := ⟨bx, o, none⟩) h.lt hn]; exact h.no o n⟩
theorem BoxAt.new {w w' : World} {bx : Nat} (h : BoxAt w bx) (hb : Below w.heap.size w w') : BoxAt w' bx := h.kept (Kept.of_below hb (fun _ => False)) (fun h => h)
theorem boxAt_new (w : World) : BoxAt (w.alloc (.cells #[.slice none 0 0] 30)) w.heap.size := ⟨by simp, by simp, by simp, box_new w⟩
structure CS (B s b dk : Nat) (O : Nat -> Prop) (vars : Nat) (room : Int) (ns : List Nd) (W0 w : World) (nb bx : Nat) (gv gl gh : Int) (L : List (Int × NV)) : Prop where
 space : SpaceAt B w s b O vars room ns
 done : DoneN w dk vars ns L
 tri : Tri w nb gv gl gh
 box : BoxAt w bx
 kept : Kept (fun j => j = dk) W0 w
section
variable {B s b dk : Nat} {O : Nat -> Prop} {vars : Nat} {room : Int} {ns : List Nd} {W0 w w' : World} {nb bx : Nat} {gv gl gh : Int} {L : List (Int × NV)}
theorem CS.new (h : CS B s b dk O vars room ns W0 w nb bx gv gl gh L) (hb : Below w.heap.size w w') : CS B s b dk O vars room ns W0 w' nb bx gv gl gh L :=
 ⟨h.space.new hb, h.done.new hb, h.tri.new hb, h.box.new hb, h.kept.trans (Kept.of_below hb _)⟩
theorem CS.ways {d : Nat} (hW : WaysOk B s b dk O vars room ns d) (ho : ¬ O dk) (hs : s ≠ dk) (hn : nb ≠ dk) (hx : bx ≠ dk) (h : CS B s b dk O vars room ns W0 w nb bx gv gl gh L) (g : Int) (v : Nat) (hh : hasB ns g = true) (hd : 24 <= topOf ns g + d) (hv : v <= topN vars ns g) :
  Calls Tryz.prog 35 #[.pointer (some ⟨s, 0, none⟩), .int .i64 g, .int .i64 (v : Int), .map (some dk)] w fun e w' => ∃ r L', e = .returned r /\ NatAt w' r (waysN vars ns g v) /\ CS B s b dk O vars room ns W0 w' nb bx gv gl gh L' /\ Kept (fun j => j = dk) w w' := by
 refine (hW g v L w h.space h.done hh hd hv).mono ?_
 rintro e w2 ⟨r, L', he, hr, hD, hk⟩
 exact ⟨r, L', he, hr, ⟨h.space.kept hk (fun j hj e => ho (e ▸ hj)) hs, hD, h.tri.kept hk hn, h.box.kept hk hx, h.kept.trans hk⟩, hk⟩
theorem CS.add (h : CS B s b dk O vars room ns W0 w nb bx gv gl gh L) {r1 r2 : Value} {m1 m2 : Nat} (h1 : NatAt w r1 m1) (h2 : NatAt w r2 m2) (l1 : m1 <= 100000000) (l2 : m2 <= 100000000) :
  Calls Tryz.prog 109 #[r1, r2] w fun e w' => ∃ a n c, e = .returned (.agg #[.slice a n c]) /\ NatAt w' (.agg #[.slice a n c]) (m1 + m2) /\ CS B s b dk O vars room ns W0 w' nb bx gv gl gh L /\ Below w.heap.size w w' := by
 obtain ⟨s1, d1, rfl, g1, n1, v1, k1⟩ := h1.open l1
 obtain ⟨s2, d2, rfl, g2, n2, v2, k2⟩ := h2.open l2
 refine (add_any s1 s2 d1 d2 w g1 g2 n1.small n2.small (by omega) (by omega)).mono ?_
 rintro e w2 ⟨s3, he, d3, g3, n3, v3, -, hb⟩
 have hn := natAt_mk g3 n3 v3
 rw [v1, v2] at hn
 obtain ⟨a, c, e3, -⟩ := id g3
 subst e3
 exact ⟨a, _, c, he, hn, h.new hb, hb⟩
end
end
section
open Go.RowKit Go.Maps Num
section
variable {B s b dk : Nat} {O : Nat -> Prop} {vars : Nat} {room : Int} {ns : List Nd} {W0 w w' : World} {nb bx : Nat} {gv gl gh : Int} {L : List (Int × NV)}
def Summed (B s b dk : Nat) (O : Nat -> Prop) (vars : Nat) (room : Int) (ns : List Nd) (W0 : World) (nb bx : Nat) (gv gl gh : Int) (m : Nat) (pv : Value) (wx : World) : Prop :=
 ∃ bx2 a n c L3, pv = .pointer (some ⟨bx2, 0, none⟩) /\ wx.cell? ⟨bx2, 0, none⟩ = some (.slice a n c) /\ bx2 < wx.heap.size /\ bx2 ≠ dk /\ bx2 ≠ bx /\ NatAt wx (.agg #[.slice a n c]) m /\ CS B s b dk O vars room ns W0 wx nb bx gv gl gh L3
theorem CS.sum (h : CS B s b dk O vars room ns W0 w nb bx gv gl gh L) {bx2 : Nat} (hb : BoxAt w bx2) (h0 : W0.heap.size <= bx2) (hO : ∀ k, O k -> k < W0.heap.size) (hs : s < W0.heap.size) (hd : dk < W0.heap.size) (hn : bx2 ≠ nb) (hx : bx2 ≠ bx) {a : Option Addr} {n c m : Nat} (hm : NatAt w (.agg #[.slice a n c]) m) :
  Summed B s b dk O vars room ns W0 nb bx gv gl gh m (.pointer (some ⟨bx2, 0, none⟩)) (w.setCell ⟨bx2, 0, none⟩ (.slice a n c)) := by
 have hk : Kept (fun j => j = bx2) w (w.setCell ⟨bx2, 0, none⟩ (.slice a n c)) := Kept.setCell _ _ _ rfl
 refine ⟨bx2, a, n, c, L, rfl, World.cell?_setCell_same _ _ _ hb.c, Nat.lt_of_lt_of_le hb.lt hk.size, by omega, hx, hm.box hb.no _, ⟨h.space.kept hk (fun j hj e => by have := hO j hj; omega) (by omega), h.done.box hb.no (by omega) _, h.tri.kept hk (fun e => hn e.symm), h.box.kept hk (fun e => hx e.symm), h.kept.andThen hk (fun i hi hlt => by omega)⟩⟩
theorem CS.sum_new (h : CS B s b dk O vars room ns W0 w nb bx gv gl gh L) (hd : dk < w.heap.size) {a : Option Addr} {n c m : Nat} (hm : NatAt w (.agg #[.slice a n c]) m) :
  Summed B s b dk O vars room ns W0 nb bx gv gl gh m (.pointer (some ⟨w.heap.size, 0, none⟩)) (w.alloc (.cells #[.slice a n c] 30)) :=
 ⟨w.heap.size, a, n, c, L, rfl, by simp, by simp, by omega, by have := h.box.lt; omega, hm.new (below_new _ _), h.new (below_new _ _)⟩
theorem Summed.tri3 {m : Nat} {pv : Value} (h : Summed B s b dk O vars room ns W0 nb bx gv gl gh m pv w) : w.cell? ⟨nb, 0, none⟩ = some (.int .i64 gv) /\ w.cell? ⟨nb, 1, none⟩ = some (.int .i64 gl) /\ w.cell? ⟨nb, 2, none⟩ = some (.int .i64 gh) := by
 obtain ⟨_, _, _, _, _, -, -, -, -, -, -, hc⟩ := h
 exact ⟨hc.tri.c0, hc.tri.c1, hc.tri.c2⟩
theorem below_makes (hg : Good vars ns) (hl : ns.length <= 90000) (hv : vars <= 24) (ho : ¬ O dk) (hs : s ≠ dk) {d : Nat} (hW : WaysOk B s b dk O vars room ns d) (h : Int) (L : List (Int × NV)) (w : World) (hS : SpaceAt B w s b O vars room ns) (hD : DoneN w dk vars ns L) (hh : hasB ns h = true) (ht : topOf ns h ≠ 24) (hd : 24 <= topOf ns h + ((d + 1 : Nat) : Int)) (hnk : h ∉ L.map Prod.fst) :
  Calls Tryz.prog 73 #[.pointer (some ⟨s, 0, none⟩), .int .i64 h, .map (some dk)] w (CntOut dk vars ns (belowN vars ns h) w) := by
 have hi := has_i64 hh (by omega)
 have hb1 := below_new w (.cells #[.slice none 0 0] 30)
 have c0 := (hS.new hb1).c0
 have HG := spGet (hS.new hb1) h hi hl
 have h0 := (topOf_le hg.ranked h).1
 have htv := top_vars hg ht
 have ht24 := top_lt hg.ranked ht
 obtain ⟨k1, k2, k3, k4⟩ := kids hg.ranked ht
 have hsum := below_node hg ht
 have hgv : (getOf ns h).v = topOf ns h := by rw [getOf_node ht]; exact (node_at ht).2.2.1.symm
 have hgn := getOf_node ht
 rw [show decide (topOf ns h ≠ 24) = true by simp [ht]] at HG
 unfold Nd.val at HG
 rw [<- hgn] at k1 k2 k3 k4 hsum
 have HL : Hid (∀ W, Below w.heap.size w W -> (Instr.lookup 85 (.map (some dk)) (.int .i64 h) true).run Tryz.prog W = .ok (.tuple #[.agg #[.slice none 0 0], .bool false]) W) := fun W hW => by
  obtain ⟨D, hDm, hR⟩ := (hD.new hW).hmap
  exact nlook_none hDm hR hi hnk
 obtain ⟨t, et⟩ : ∃ t : Nat, topOf ns h = (t : Int) := ⟨(topOf ns h).toNat, by omega⟩
 have hPUT : Hid (∀ W L' x, DoneN W dk vars ns L' -> NatAt W (NV.val x) (belowN vars ns h) -> ∃ w' L'', (Instr.mapUpdate 85 (.map (some dk)) (.int .i64 h) x.val).run Tryz.prog W = .ok () w' /\ DoneN w' dk vars ns L'' /\ Kept (fun j => j = dk) W w') := fun W L' x h1 h2 => done_put h1 hi ht x h2 hl
 rw [et] at hgv htv ht24 k1 k3 hsum hd
 rw [Int.toNat_natCast] at hsum
 generalize getOf ns h = gn at *
 obtain ⟨gv, gl, gh⟩ := gn
 simp only at hgv k1 k2 k3 k4 hsum HG
 subst hgv
 have tl : t + 1 <= topN vars ns gl := by unfold topN; omega
 have th : t + 1 <= topN vars ns gh := by unfold topN; omega
 have HW1 : Hid (∀ X L' nb bx, nb ≠ dk -> bx ≠ dk -> CS B s b dk O vars room ns w X nb bx (t : Int) gl gh L' -> Calls Tryz.prog 35 #[.pointer (some ⟨s, 0, none⟩), .int .i64 gl, .int .i64 ((t : Int) + 1), .map (some dk)] X fun e w' => ∃ r L', e = .returned r /\ NatAt w' r (waysN vars ns gl (t + 1)) /\ CS B s b dk O vars room ns w w' nb bx (t : Int) gl gh L' /\ Kept (fun j => j = dk) X w') := fun X L' nb bx h1 h2 hc =>
  hc.ways hW ho hs h1 h2 gl (t + 1) k2 (by omega) tl
 have HW2 : Hid (∀ X L' nb bx, nb ≠ dk -> bx ≠ dk -> CS B s b dk O vars room ns w X nb bx (t : Int) gl gh L' -> Calls Tryz.prog 35 #[.pointer (some ⟨s, 0, none⟩), .int .i64 gh, .int .i64 ((t : Int) + 1), .map (some dk)] X fun e w' => ∃ r L', e = .returned r /\ NatAt w' r (waysN vars ns gh (t + 1)) /\ CS B s b dk O vars room ns w w' nb bx (t : Int) gl gh L' /\ Kept (fun j => j = dk) X w') := fun X L' nb bx h1 h2 hc =>
  hc.ways hW ho hs h1 h2 gh (t + 1) k4 (by omega) th
 have l1 : waysN vars ns gl (t + 1) <= 100000000 := by have := ways_le vars ns gl (t + 1) hv; omega
 have l2 : waysN vars ns gh (t + 1) <= 100000000 := by have := ways_le vars ns gh (t + 1) hv; omega
 have hOw : ∀ k, O k -> k < w.heap.size := fun k hk => (hS.own k hk).2
 have hsl := hS.slt
 have hdl := hD.lt
 have HGT := Lib.hid HG
 have HS := Lib.hid hS
 have HD := Lib.hid hD
 have HB1 := Lib.hid hb1
 have HSUM := Lib.hid hsum
 have HOW := Lib.hid hOw
 have BX := Lib.hid (boxAt_new w)
 have hw1 : IntKind.i64.wrap ((t : Int) + 1) = (t : Int) + 1 := IntWalk.i64_in _ ⟨by omega, by omega⟩
 have hw2 : wrap64 ((t : Int) + 1) = (t : Int) + 1 := by unfold wrap64; omega
 clear HG hS hD hh ht hb1 hsum hOw hW hg k1 k2 k3 k4 tl th hnk hgn et
 generalize belowN vars ns h = m at *
 generalize waysN vars ns gl (t + 1) = m1 at *
 generalize waysN vars ns gh (t + 1) = m2 at *
 have bxl := BX.out.lt
 go_enter Tryz.func73, Tryz.ntmps73
 go_wp2_with fail
 refine HGT.out.mono ?_
 rintro e w2 ⟨rfl, hb2⟩
 generalize (w.alloc (.cells #[.slice none 0 0] 30)) = W1 at *
 have hb3 := hb2.alloc hb2.size (.cells #[.int .i64 (t : Int), .int .i64 gl, .int .i64 gh] 102)
 have hb4 := HB1.out.trans (hb3.mono HB1.out.size)
 have hrun := HL.out _ hb4
 have hs2 := hb2.size
 have hb5 := below_new (w2.alloc (.cells #[.int .i64 (t : Int), .int .i64 gl, .int .i64 gh] 102)) (.cells #[.slice none 0 0] 30)
 have cs : CS B s b dk O vars room ns w ((w2.alloc (.cells #[.int .i64 (t : Int), .int .i64 gl, .int .i64 gh] 102)).alloc (.cells #[.slice none 0 0] 30)) w2.heap.size w.heap.size (t : Int) gl gh L :=
  CS.new ⟨HS.out.new hb4, HD.out.new hb4, tri_new w2 (t : Int) gl gh 102, BX.out.new hb3, Kept.of_below hb4 _⟩ hb5
 have HCS := Lib.hid cs
 clear hb2 hb3 hb4 hb5 cs HGT HL HS HD BX c0
 go_wp2_with fail
 generalize ((w2.alloc (.cells #[.int .i64 (t : Int), .int .i64 gl, .int .i64 gh] 102)).alloc (.cells #[.slice none 0 0] 30)) = W4 at *
 have cs0 := HCS.out.new (Below.refl _ _).drew
 have csA := (HCS.out.new (below_new W4 (.cells #[.slice none 0 0] 30))).new (Below.refl _ _).drew
 have nd1 : w2.heap.size ≠ dk := by omega
 have nd2 : w.heap.size ≠ dk := by omega
 have nn1 : w.heap.size < w2.heap.size := by omega
 have w4l : w2.heap.size < W4.heap.size := HCS.out.tri.lt
 have HNO : Hid (∀ X L', CS B s b dk O vars room ns w X w2.heap.size w.heap.size (t : Int) gl gh L' -> ∀ b o n, b = dk -> X.cell? ⟨b, o, none⟩ ≠ some (.int .u64 n)) := fun X L' hc b o n e => hc.done.no b o n e
 have nA : W4.heap.size ≠ dk := by omega
 have nB : w.heap.size <= W4.heap.size := by omega
 have nC : W4.heap.size ≠ w2.heap.size := by omega
 have nD : W4.heap.size ≠ w.heap.size := by omega
 clear hrun
 go_cut [11] (fun pv wx => Summed B s b dk O vars room ns w w2.heap.size w.heap.size (t : Int) gl gh m pv wx)
 case first =>
  go_region_held3 (fun X => X.cell? ⟨w2.heap.size, 0, none⟩ = some (.int .i64 (t : Int)) /\ X.cell? ⟨w2.heap.size, 1, none⟩ = some (.int .i64 gl) /\ X.cell? ⟨w2.heap.size, 2, none⟩ = some (.int .i64 gh))
   (first
    | exact ⟨cs0.tri.c0, cs0.tri.c1, cs0.tri.c2⟩
    | exact ⟨csA.tri.c0, csA.tri.c1, csA.tri.c2⟩
    | exact ⟨cs2.tri.c0, cs2.tri.c1, cs2.tri.c2⟩
    | exact ⟨(cs2.new (below_new _ _)).tri.c0, (cs2.new (below_new _ _)).tri.c1, (cs2.new (below_new _ _)).tri.c2⟩
    | exact ⟨cs3.tri.c0, cs3.tri.c1, cs3.tri.c2⟩
    | exact ⟨(cs3.new (below_new _ _)).tri.c0, (cs3.new (below_new _ _)).tri.c1, (cs3.new (below_new _ _)).tri.c2⟩
    | exact hsm.tri3
    | exact ⟨cs7.tri.c0, cs7.tri.c1, cs7.tri.c2⟩
    | exact ⟨(cs7.new (below_new _ _)).tri.c0, (cs7.new (below_new _ _)).tri.c1, (cs7.new (below_new _ _)).tri.c2⟩)
   (first
    | (go_at_call 35; with_reducible refine (HW1.out _ _ _ _ nd1 nd2 cs0).mono ?_; rintro e w5 ⟨r1, L1, rfl, hn1, cs2, hk1⟩)
    | (go_at_call 35; with_reducible refine (HW1.out _ _ _ _ nd1 nd2 csA).mono ?_; rintro e w5 ⟨r1, L1, rfl, hn1, cs2, hk1⟩)
    | (go_at_call 35; with_reducible refine (HW2.out _ _ _ _ nd1 nd2 cs2).mono ?_; rintro e w6 ⟨r2, L2, rfl, hn2, cs3, hk2⟩; have hn3 := hn1.kept hk2 (HNO.out _ _ cs2))
    | (go_at_call 35; with_reducible refine (HW2.out _ _ _ _ nd1 nd2 (cs2.new (below_new _ _))).mono ?_; rintro e w6 ⟨r2, L2, rfl, hn2, cs3, hk2⟩; have hn3 := (hn1.new (below_new _ _)).kept hk2 (HNO.out _ _ (cs2.new (below_new _ _))))
    | (go_at_call 109; (with_reducible refine (cs3.add hn3 hn2 l1 l2).mono ?_); rintro e w7 ⟨a7, n7, c7, rfl, hn7, cs7, hb7⟩; rw [<- HSUM.out] at hn7; have hbx : BoxAt w7 W4.heap.size := ((((boxAt_new W4).new (Below.refl _ _).drew).kept hk1 nA).kept hk2 nA).new hb7; have hsm := cs7.sum hbx nB HOW.out hsl hdl nC nD hn7; have q1 := hbx.c; have q2 := hbx.f)
    | (go_at_call 109; (with_reducible refine (cs3.add hn3 hn2 l1 l2).mono ?_); rintro e w7 ⟨a7, n7, c7, rfl, hn7, cs7, hb7⟩; rw [<- HSUM.out] at hn7; have z1 : W4.heap.size <= w5.heap.size := hk1.size; have hbx : BoxAt w7 w5.heap.size := ((boxAt_new w5).kept hk2 (show w5.heap.size ≠ dk by omega)).new hb7; have hsm := cs7.sum hbx (by omega) HOW.out hsl hdl (by omega) (by omega) hn7; have q1 := hbx.c; have q2 := hbx.f)
    | (go_at_call 109; (with_reducible refine ((cs3.new (below_new _ _)).add (hn3.new (below_new _ _)) (hn2.new (below_new _ _)) l1 l2).mono ?_); rintro e w7 ⟨a7, n7, c7, rfl, hn7, cs7, hb7⟩; rw [<- HSUM.out] at hn7; have z1 : W4.heap.size <= w5.heap.size := hk1.size; have z2 : w5.heap.size <= w6.heap.size := hk2.size; have hbx : BoxAt w7 w6.heap.size := (boxAt_new w6).new hb7; have hsm := cs7.sum hbx (by omega) HOW.out hsl hdl (by omega) (by omega) hn7; have q1 := hbx.c; have q2 := hbx.f)
    | (go_at_call 109; (with_reducible refine (cs3.add hn3 hn2 l1 l2).mono ?_); rintro e w7 ⟨a7, n7, c7, rfl, hn7, cs7, hb7⟩; rw [<- HSUM.out] at hn7; have hsm := cs7.sum_new (Nat.lt_of_lt_of_le hdl cs7.kept.size) hn7))
  all_goals
   go_wp2_with fail
   go_meet
   case rel => exact hsm
 case rest =>
  obtain ⟨bx2, a, n, c, L3, rfl, hc2, hl2, hd2, hx2, hn, cs3⟩ := hcut
  obtain ⟨w8, L4, hrun, hD8, hk8⟩ := hPUT.out wc L3 ⟨a, n, c⟩ cs3.done hn
  unfold NV.val at hrun
  have hc8 := (hk8.cell (a := ⟨bx2, 0, none⟩) hl2 hd2).trans hc2
  have hb8 := cs3.box.kept hk8 nd2
  have bc8 := hb8.c
  have bf8 := hb8.f
  have hn8 := hn.kept hk8 (HNO.out _ _ cs3)
  have hcs : (w8.setCell ⟨w.heap.size, 0, none⟩ (.slice a n c)).cell? ⟨w.heap.size, 0, none⟩ = some (.slice a n c) := World.cell?_setCell_same _ _ _ bc8
  have hk : Kept (fun j => j = dk) w (w8.setCell ⟨w.heap.size, 0, none⟩ (.slice a n c)) := (cs3.kept.trans hk8).andThen (Kept.setCell (S := fun j => j = w.heap.size) _ _ _ rfl) (fun i hi hlt => by omega)
  have HFIN : Hid (CntOut dk vars ns m w (.returned (.agg #[.slice a n c])) (w8.setCell ⟨w.heap.size, 0, none⟩ (.slice a n c))) := ⟨_, L4, rfl, hn8.box hb8.no _, hD8.box hb8.no nd2 _, hk⟩
  clear hn cs3 hD8 hk8 hb8 hn8 hk HW1 HW2 HNO hPUT HCS cs0 csA HOW
  go_wp2
  refine bodyPost_ret (v := .agg #[.slice a n c]) (by simp [results, Tryz.results73, go_sem, hcs]) rfl HFIN.out
theorem below_any (hg : Good vars ns) (hl : ns.length <= 90000) (hv : vars <= 24) (ho : ¬ O dk) (hs : s ≠ dk) : ∀ d, BelowOk B s b dk O vars room ns d
 | 0 => fun h L w hS hD hh hd => below_ends hl hv h L w hS hD hh (by have := (topOf_le hg.ranked h).2; omega)
 | d + 1 => fun h L w hS hD hh hd => by
  by_cases ht : topOf ns h = 24
  ·exact below_ends hl hv h L w hS hD hh ht
  ·by_cases hk : h ∈ L.map Prod.fst
   ·obtain ⟨p, hp, rfl⟩ := List.mem_map.1 hk
    exact below_found hl L w hS hD p hp hh
   ·exact below_makes hg hl hv ho hs (ways_step hg hl hv (below_any hg hl hv ho hs d)) h L w hS hD hh ht hd hk
theorem ways_any (hg : Good vars ns) (hl : ns.length <= 90000) (hv : vars <= 24) (ho : ¬ O dk) (hs : s ≠ dk) : WaysOk B s b dk O vars room ns 24 := ways_step hg hl hv (below_any hg hl hv ho hs 24)
end
end
end Go.Proofs.YtcjjekhecjmaeaaGreatDoor
