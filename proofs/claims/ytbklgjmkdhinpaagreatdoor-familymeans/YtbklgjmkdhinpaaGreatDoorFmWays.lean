/- ways: how many sets. -/
import Derived.Test.YtbklgjmkdhinpaaGreatDoorFmOneS
import Derived.Test.YtbklgjmkdhinpaaGreatDoorBdNMap
import Derived.Test.YtbklgjmkdhinpaaGreatDoorCnAdd
set_option maxHeartbeats 4000000
set_option maxRecDepth 100000
namespace Go.Proofs.YtbklgjmkdhinpaaGreatDoor.Fm
open Go.RowKit Go.Maps Go.Proofs.YtbklgjmkdhinpaaGreatDoor.Bd Go.Proofs.YtbklgjmkdhinpaaGreatDoor.Bd.Num
def nsF : Nat -> List Nd -> Int -> Nat
 | 0, _, h => if h = 1 then 1 else 0
 | d + 1, ns, h => if topOf ns h = 24 then (if h = 1 then 1 else 0) else nsF d ns (nd ns (pl h)).l + nsF d ns (nd ns (pl h)).h
def nsN (ns : List Nd) (h : Int) : Nat := nsF 24 ns h
theorem nsF_any {ns : List Nd} (hr : Ranked ns) : ∀ (d e : Nat) (h : Int), 24 <= topOf ns h + d -> 24 <= topOf ns h + e -> nsF d ns h = nsF e ns h
 | 0, 0, h, _, _ => rfl
 | 0, e + 1, h, hd, _ => by
  have := (topOf_le hr h).2
  unfold nsF; rw [if_pos (show topOf ns h = 24 by omega)]
 | d + 1, 0, h, _, he => by
  have := (topOf_le hr h).2
  unfold nsF; rw [if_pos (show topOf ns h = 24 by omega)]
 | d + 1, e + 1, h, hd, he => by
  unfold nsF
  by_cases ht : topOf ns h = 24
  ·rw [if_pos ht, if_pos ht]
  ·rw [if_neg ht, if_neg ht]
   obtain ⟨k1, -, k2, -⟩ := kids hr ht
   rw [nsF_any hr d e _ (by omega) (by omega), nsF_any hr d e (nd ns (pl h)).h (by omega) (by omega)]
theorem nsN_end {ns : List Nd} {h : Int} (hh : hasB ns h = true) (ht : topOf ns h = 24) : nsN ns h = h.toNat := by
 unfold nsN nsF; rw [if_pos ht]
 rcases end_of hh ht with rfl | rfl <;> rfl
theorem nsN_node {ns : List Nd} (hr : Ranked ns) {h : Int} (ht : topOf ns h ≠ 24) : nsN ns h = nsN ns (nd ns (pl h)).l + nsN ns (nd ns (pl h)).h := by
 obtain ⟨k1, -, k2, -⟩ := kids hr ht
 have h0 := (topOf_le hr h).1
 show nsF 24 ns h = nsF 24 _ _ + nsF 24 _ _
 rw [show nsF 24 ns h = nsF 23 ns (nd ns (pl h)).l + nsF 23 ns (nd ns (pl h)).h from by unfold nsF; rw [if_neg ht]; rfl]
 rw [nsF_any hr 23 24 _ (by omega) (by omega), nsF_any hr 23 24 (nd ns (pl h)).h (by omega) (by omega)]
theorem nsF_le (ns : List Nd) : ∀ (d : Nat) (h : Int), nsF d ns h <= 2 ^ d
 | 0, h => by unfold nsF; split <;> simp
 | d + 1, h => by
  unfold nsF
  have := Nat.one_le_two_pow (n := d + 1)
  split
  ·split <;> omega
  ·have h1 := nsF_le ns d (nd ns (pl h)).l
   have h2 := nsF_le ns d (nd ns (pl h)).h
   rw [Nat.pow_succ]; omega
theorem nsN_le (ns : List Nd) (h : Int) : nsN ns h <= 16777216 := nsF_le ns 24 h
theorem nodupLe : ∀ (n : Nat) (l : List Nat), l.Nodup -> (∀ x ∈ l, x < n) -> l.length <= n
 | 0, l, _, h => by
  cases l with
  | nil => simp
  | cons a l => have := h a (List.mem_cons_self ..); omega
 | n + 1, l, hd, h => by
  have ih := nodupLe n (l.erase n) (hd.erase n) (fun x hx => by
   have h1 := (hd.mem_erase_iff).1 hx
   have h2 := h x h1.2
   have h3 := h1.1
   omega)
  by_cases hm : n ∈ l
  ·rw [List.length_erase_of_mem hm] at ih; omega
  ·rw [List.erase_of_not_mem hm] at ih; omega
def NatAt (w : World) (v : Value) (m : Nat) : Prop := ∃ x : NV, v = x.val /\ ∃ ds, Dig .u64 w (.slice x.a x.n x.c) ds /\ Norm 1000000000 ds /\ val 1000000000 ds = m
theorem NatAt.new {w w' : World} {v : Value} {m : Nat} (h : NatAt w v m) (hb : Below w.heap.size w w') : NatAt w' v m := by
 obtain ⟨x, e, ds, h1, h2, h3⟩ := h
 exact ⟨x, e, ds, h1.below hb, h2, h3⟩
theorem NatAt.kept {S : Nat -> Prop} {w w' : World} {v : Value} {m : Nat} (h : NatAt w v m) (hk : Kept S w w') (hn : ∀ b o n, S b -> w.cell? ⟨b, o, none⟩ ≠ some (.int .u64 n)) : NatAt w' v m := by
 obtain ⟨x, e, ds, ⟨a, cap, hv, hc, hi⟩, h2, h3⟩ := h
 refine ⟨x, e, ds, ⟨a, cap, hv, hc, fun i hl => ?_⟩, h2, h3⟩
 obtain ⟨b, off, ha, hb, hcell⟩ := hi i hl
 exact ⟨b, off, ha, Nat.lt_of_lt_of_le hb hk.size, (hk.cell (a := ⟨b, off + i, none⟩) hb (fun hs => hn b _ _ hs hcell)).trans hcell⟩
theorem natAt_mk {w : World} {s : Value} {ds : List Nat} {m : Nat} (h : Dig .u64 w s ds) (hN : Norm 1000000000 ds) (hv : val 1000000000 ds = m) : NatAt w (.agg #[s]) m := by
 have h0 := h
 obtain ⟨a, cap, e, -⟩ := h0
 subst e
 exact ⟨⟨a, ds.length, cap⟩, rfl, ds, h, hN, hv⟩
theorem NatAt.open {w : World} {v : Value} {m : Nat} (h : NatAt w v m) (hm : m <= 100000000) : ∃ s ds, v = .agg #[s] /\ Dig .u64 w s ds /\ Norm 1000000000 ds /\ val 1000000000 ds = m /\ ds.length <= 1 := by
 obtain ⟨x, e, ds, h1, h2, h3⟩ := h
 exact ⟨_, ds, e, h1, h2, h3, norm_len (by omega) h2 (by rw [h3]; omega)⟩
structure DoneN (w : World) (dk vars : Nat) (ns : List Nd) (L : List (Int × NV)) : Prop where
 hmap : ∃ D, w.ownsMap Tryz.prog 3 natR dk L.length D /\ NRep D L
 keys : ∀ p ∈ L, topOf ns p.1 ≠ 24
 nums : ∀ p ∈ L, NatAt w p.2.val (nsN ns p.1)
section
variable {w w' : World} {dk vars : Nat} {ns : List Nd} {L : List (Int × NV)}
theorem DoneN.lt (h : DoneN w dk vars ns L) : dk < w.heap.size := by obtain ⟨D, hD, -⟩ := h.hmap; exact hD.lt
theorem DoneN.none (h : DoneN w dk vars ns L) (o : Nat) : w.cell? ⟨dk, o, none⟩ = none := by
 obtain ⟨D, ⟨es, clock, hb, -⟩, -⟩ := h.hmap
 unfold World.cell?
 simp only [hb]
theorem DoneN.kept {S : Nat -> Prop} (h : DoneN w dk vars ns L) (hk : Kept S w w') (hn : ¬ S dk) (hc : ∀ b o n, S b -> w.cell? ⟨b, o, Option.none⟩ ≠ some (.int .u64 n)) : DoneN w' dk vars ns L := by
 obtain ⟨D, hD, hR⟩ := h.hmap
 exact ⟨⟨D, ownsMap_kept hD hk hn, hR⟩, h.keys, fun p hp => (h.nums p hp).kept hk hc⟩
theorem DoneN.new (h : DoneN w dk vars ns L) (hb : Below w.heap.size w w') : DoneN w' dk vars ns L := h.kept (Kept.of_below hb (fun _ => False)) (fun h => h) (fun _ _ _ h => h.elim)
theorem DoneN.no (h : DoneN w dk vars ns L) (b o : Nat) (n : Int) (e : b = dk) : w.cell? ⟨b, o, Option.none⟩ ≠ some (.int .u64 n) := by rw [e, h.none]; exact fun h => by cases h
theorem box_new (w : World) (o : Nat) (n : Int) : (w.alloc (.cells #[.slice none 0 0] 38)).cell? ⟨w.heap.size, o, Option.none⟩ ≠ some (.int .u64 n) := by
 cases o with
 | zero => simp
 | succ o => simp
theorem NatAt.box {v : Value} {m bx : Nat} (h : NatAt w v m) (hb : ∀ o n, w.cell? ⟨bx, o, Option.none⟩ ≠ some (.int .u64 n)) (u : Value) : NatAt (w.setCell ⟨bx, 0, Option.none⟩ u) v m :=
 h.kept (S := fun j => j = bx) (Kept.setCell _ _ _ rfl) (fun b o n e => by rw [e]; exact hb o n)
theorem DoneN.box {bx : Nat} (h : DoneN w dk vars ns L) (hb : ∀ o n, w.cell? ⟨bx, o, Option.none⟩ ≠ some (.int .u64 n)) (hne : bx ≠ dk) (u : Value) : DoneN (w.setCell ⟨bx, 0, Option.none⟩ u) dk vars ns L :=
 h.kept (S := fun j => j = bx) (Kept.setCell _ _ _ rfl) (fun e => hne e.symm) (fun b o n e => by rw [e]; exact hb o n)
theorem DoneN.len (h : DoneN w dk vars ns L) : L.length <= ns.length := by
 obtain ⟨D, -, hR⟩ := h.hmap
 have hk : ∀ p ∈ L, p.1 = 2 + (pl p.1 : Int) /\ pl p.1 < ns.length := fun p hp => ⟨(node_at (h.keys p hp)).2.2.2, (node_at (h.keys p hp)).2.1⟩
 have hd := Rep.nodup hR
 have := nodupLe ns.length (L.map fun p => pl p.1) (by
  have e : (L.map fun p => pl p.1) = (L.map Prod.fst).map pl := by simp
  rw [e]
  refine (List.nodup_iff_pairwise_ne.1 hd |> fun hp => ?_)
  refine List.nodup_iff_pairwise_ne.2 (List.pairwise_map.2 (hp.imp_of_mem fun {a b} ha hb hab e => hab ?_))
  obtain ⟨p, hp1, rfl⟩ := List.mem_map.1 ha
  obtain ⟨q, hq1, rfl⟩ := List.mem_map.1 hb
  rw [(hk p hp1).1, (hk q hq1).1, e]) (fun x hx => by
  obtain ⟨p, hp1, rfl⟩ := List.mem_map.1 hx
  exact (hk p hp1).2)
 simpa using this
end
def CntOut (dk vars : Nat) (ns : List Nd) (m : Nat) (w : World) (e : Ending) (w' : World) : Prop :=
 ∃ v L', e = .returned v /\ NatAt w' v m /\ DoneN w' dk vars ns L' /\ Kept (fun j => j = dk) w w'
def WaysOk (B s b dk : Nat) (O : Nat -> Prop) (vars : Nat) (room : Int) (ns : List Nd) (d : Nat) : Prop :=
 ∀ (h : Int) (L : List (Int × NV)) (w : World), SpaceAt B w s b O vars room ns -> DoneN w dk vars ns L -> hasB ns h = true -> 24 <= topOf ns h + d ->
  Calls Tryz.prog 30 #[.pointer (some ⟨s, 0, none⟩), .int .i64 h, .map (some dk)] w (CntOut dk vars ns (nsN ns h) w)
section
variable {B s b dk : Nat} {O : Nat -> Prop} {vars : Nat} {room : Int} {ns : List Nd}
theorem below_ends (hl : ns.length <= 90000) (_hv : vars <= 24) (h : Int) (L : List (Int × NV)) (w : World) (hS : SpaceAt B w s b O vars room ns) (hD : DoneN w dk vars ns L) (hh : hasB ns h = true) (ht : topOf ns h = 24) :
  Calls Tryz.prog 30 #[.pointer (some ⟨s, 0, none⟩), .int .i64 h, .map (some dk)] w (CntOut dk vars ns (nsN ns h) w) := by
 have hi := has_i64 hh (by omega)
 have hb1 := below_new w (.cells #[.slice none 0 0] 38)
 have c0 := (hS.new hb1).c0
 have HG := spGet (hS.new hb1) h hi hl
 rw [show decide (topOf ns h ≠ 24) = false by simp [ht], show getOf ns h = ⟨0, 0, 0⟩ by unfold getOf; rw [if_pos ht]] at HG
 unfold Nd.val at HG
 have HGT := Lib.hid HG
 have hbe := nsN_end hh ht
 have hdl := hD.lt
 have bxl : w.heap.size < (w.alloc (.cells #[.slice none 0 0] 38)).heap.size := by simp
 have bc : (w.alloc (.cells #[.slice none 0 0] 38)).cell? ⟨w.heap.size, 0, none⟩ = some (.slice none 0 0) := by simp
 have bf : (w.alloc (.cells #[.slice none 0 0] 38)).frozen? ⟨w.heap.size, 0, none⟩ = false := by simp
 have BO := Lib.hid (box_new w)
 have HB1 := Lib.hid hb1
 have HD := Lib.hid hD
 have HBE := Lib.hid hbe
 obtain ⟨hi0, hi1⟩ := hi
 clear HG hS hD hh ht hb1 hbe
 go_enter Tryz.func30, Tryz.ntmps30
 go_wp2_with fail
 refine HGT.out.mono ?_
 rintro e w2 ⟨rfl, hb2⟩
 generalize (w.alloc (.cells #[.slice none 0 0] 38)) = W1 at *
 have hb3 := hb2.alloc hb2.size (.cells #[.int .i64 0, .int .i64 0, .int .i64 0] 83)
 have HOF := Lib.hid (of_any h (w2.alloc (.cells #[.int .i64 0, .int .i64 0, .int .i64 0] 83)) hi0 hi1)
 have HB3 := Lib.hid hb3
 clear hb2 hb3 HGT c0
 go_wp2_with fail
 refine HOF.out.mono ?_
 rintro e w4 ⟨v4, rfl, ds4, hdg, hnm, hvl, hb4⟩
 have hb5 := HB3.out.trans (hb4.mono HB3.out.size)
 have hnat := natAt_mk hdg hnm hvl
 rw [<- HBE.out] at hnat
 obtain ⟨a4, c4, e4, -⟩ := id hdg
 subst e4
 have bc4 := (hb5.cell (p := ⟨w.heap.size, 0, none⟩) bxl).trans bc
 have bf4 := (hb5.frozen (p := ⟨w.heap.size, 0, none⟩) bxl).trans bf
 have hcs : (w4.setCell ⟨w.heap.size, 0, none⟩ (.slice a4 ds4.length c4)).cell? ⟨w.heap.size, 0, none⟩ = some (.slice a4 ds4.length c4) := World.cell?_setCell_same _ _ _ bc4
 have hno : ∀ o n, w4.cell? ⟨w.heap.size, o, none⟩ ≠ some (.int .u64 n) := fun o n => by
  rw [hb5.cell (p := ⟨w.heap.size, o, none⟩) bxl]
  exact BO.out o n
 have hb6 : Below w.heap.size w w4 := HB1.out.trans (hb5.mono HB1.out.size)
 have hne : w.heap.size ≠ dk := by omega
 have hk : Kept (fun j => j = dk) w (w4.setCell ⟨w.heap.size, 0, none⟩ (.slice a4 ds4.length c4)) := (Kept.of_below hb6 _).andThen (Kept.setCell (S := fun j => j = w.heap.size) _ _ _ rfl) (fun i hi hlt => by omega)
 have HFIN : Hid (CntOut dk vars ns (nsN ns h) w (.returned (.agg #[.slice a4 ds4.length c4])) (w4.setCell ⟨w.heap.size, 0, none⟩ (.slice a4 ds4.length c4))) := ⟨_, L, rfl, hnat.box hno _, (HD.out.new hb6).box hno hne _, hk⟩
 clear hdg hnm hvl hnat hno hk hb4 hb5 hb6 HOF HB3 HB1 HD BO HBE bc bf
 go_wp2
 refine bodyPost_ret (v := .agg #[.slice a4 ds4.length c4]) (by simp [results, Tryz.results30, go_sem, hcs]) rfl HFIN.out
theorem below_found (hl : ns.length <= 90000) (L : List (Int × NV)) (w : World) (hS : SpaceAt B w s b O vars room ns) (hD : DoneN w dk vars ns L) (p : Int × NV) (hp : p ∈ L) (hh : hasB ns p.1 = true) :
  Calls Tryz.prog 30 #[.pointer (some ⟨s, 0, none⟩), .int .i64 p.1, .map (some dk)] w (CntOut dk vars ns (nsN ns p.1) w) := by
 have hi := has_i64 hh (by omega)
 have ht := hD.keys p hp
 have hnat := hD.nums p hp
 have hb1 := below_new w (.cells #[.slice none 0 0] 38)
 have c0 := (hS.new hb1).c0
 have HG := spGet (hS.new hb1) p.1 hi hl
 rw [show decide (topOf ns p.1 ≠ 24) = true by simp [ht]] at HG
 unfold Nd.val at HG
 have HGT := Lib.hid HG
 have HL : Hid (∀ W, Below w.heap.size w W -> (Instr.lookup 68 (.map (some dk)) (.int .i64 p.1) true).run Tryz.prog W = .ok (.tuple #[.agg #[.slice p.2.a p.2.n p.2.c], .bool true]) W) := fun W hW => by
  obtain ⟨D, hDm, hR⟩ := (hD.new hW).hmap
  exact nlook_found hDm hR hp
 have hdl := hD.lt
 have bxl : w.heap.size < (w.alloc (.cells #[.slice none 0 0] 38)).heap.size := by simp
 have bc : (w.alloc (.cells #[.slice none 0 0] 38)).cell? ⟨w.heap.size, 0, none⟩ = some (.slice none 0 0) := by simp
 have bf : (w.alloc (.cells #[.slice none 0 0] 38)).frozen? ⟨w.heap.size, 0, none⟩ = false := by simp
 have BO := Lib.hid (box_new w)
 have HB1 := Lib.hid hb1
 have HD := Lib.hid hD
 have HN : Hid (NatAt w (.agg #[.slice p.2.a p.2.n p.2.c]) (nsN ns p.1)) := hnat
 clear HG hS hD hh ht hb1 hnat hp
 generalize p.2.a = xa at *
 generalize p.2.n = xn at *
 generalize p.2.c = xc at *
 generalize p.1 = h at *
 generalize getOf ns h = gn at *
 generalize nsN ns h = m at *
 obtain ⟨gv, gl, gh⟩ := gn
 simp only at HGT
 go_enter Tryz.func30, Tryz.ntmps30
 go_wp2_with fail
 refine HGT.out.mono ?_
 rintro e w2 ⟨rfl, hb2⟩
 generalize (w.alloc (.cells #[.slice none 0 0] 38)) = W1 at *
 have hb3 := hb2.alloc hb2.size (.cells #[.int .i64 gv, .int .i64 gl, .int .i64 gh] 83)
 have hb4 := HB1.out.trans (hb3.mono HB1.out.size)
 have hrun := HL.out _ hb4
 have hb5 := hb3.alloc hb3.size (.cells #[.slice xa xn xc] 38)
 have bc4 := (hb5.cell (p := ⟨w.heap.size, 0, none⟩) bxl).trans bc
 have bf4 := (hb5.frozen (p := ⟨w.heap.size, 0, none⟩) bxl).trans bf
 have hno : ∀ o n, ((w2.alloc (.cells #[.int .i64 gv, .int .i64 gl, .int .i64 gh] 83)).alloc (.cells #[.slice xa xn xc] 38)).cell? ⟨w.heap.size, o, none⟩ ≠ some (.int .u64 n) := fun o n => by
  rw [hb5.cell (p := ⟨w.heap.size, o, none⟩) bxl]
  exact BO.out o n
 have hb6 : Below w.heap.size w ((w2.alloc (.cells #[.int .i64 gv, .int .i64 gl, .int .i64 gh] 83)).alloc (.cells #[.slice xa xn xc] 38)) := HB1.out.trans (hb5.mono HB1.out.size)
 have hcs : (((w2.alloc (.cells #[.int .i64 gv, .int .i64 gl, .int .i64 gh] 83)).alloc (.cells #[.slice xa xn xc] 38)).setCell ⟨w.heap.size, 0, none⟩ (.slice xa xn xc)).cell? ⟨w.heap.size, 0, none⟩ = some (.slice xa xn xc) := World.cell?_setCell_same _ _ _ bc4
 have hne : w.heap.size ≠ dk := by omega
 have hk : Kept (fun j => j = dk) w (((w2.alloc (.cells #[.int .i64 gv, .int .i64 gl, .int .i64 gh] 83)).alloc (.cells #[.slice xa xn xc] 38)).setCell ⟨w.heap.size, 0, none⟩ (.slice xa xn xc)) := (Kept.of_below hb6 _).andThen (Kept.setCell (S := fun j => j = w.heap.size) _ _ _ rfl) (fun i hi hlt => by omega)
 have HFIN : Hid (CntOut dk vars ns m w (.returned (.agg #[.slice xa xn xc])) (((w2.alloc (.cells #[.int .i64 gv, .int .i64 gl, .int .i64 gh] 83)).alloc (.cells #[.slice xa xn xc] 38)).setCell ⟨w.heap.size, 0, none⟩ (.slice xa xn xc))) := ⟨_, L, rfl, (HN.out.new hb6).box hno _, (HD.out.new hb6).box hno hne _, hk⟩
 clear hb2 hb3 hb4 hb5 hb6 hno hk HGT HL HB1 HD HN BO c0 bc bf
 go_wp2
 refine bodyPost_ret (v := .agg #[.slice xa xn xc]) (by simp [results, Tryz.results30, go_sem, hcs]) rfl HFIN.out
end
section
variable {w w' : World} {dk vars : Nat} {ns : List Nd} {L : List (Int × NV)}
theorem done_put (hD : DoneN w dk vars ns L) {a : Int} (ha : I64 a) (ht : topOf ns a ≠ 24) (x : NV) (hx : NatAt w x.val (nsN ns a)) (hl : ns.length <= 90000) :
  ∃ w' L', (Instr.mapUpdate 68 (.map (some dk)) (.int .i64 a) x.val).run Tryz.prog w = .ok () w' /\ DoneN w' dk vars ns L' /\ Kept (fun j => j = dk) w w' := by
 have hlen := hD.len
 obtain ⟨D, hDm, hR⟩ := hD.hmap
 obtain ⟨w', hrun, h1, h2⟩ := hDm.update lawI Tryz.underlying68 (by unfold maxLen; omega) (keyI ha) (natR_val x)
 have hk : Kept (fun k => k = dk) w w' := Kept.of_grown h2 (fun i h => by cases h; rfl)
 have hno : ∀ b o n, b = dk -> w.cell? ⟨b, o, Option.none⟩ ≠ some (.int .u64 n) := fun b o n e => hD.no b o n e
 by_cases hm : a ∈ L.map Prod.fst
 ·have hR' : NRep (D.put (.int .i64 a) x.dat) (L.map fun q => if q.1 = a then (q.1, x) else q) := Rep.put_over hR (fun a b _ _ e => by injection e) (fun _ => trivial) x hm
  refine ⟨w', _, hrun, ⟨⟨_, hR'.size ▸ ownsMap_norm h1, hR'⟩, fun p hp => ?_, fun p hp => ?_⟩, hk⟩
  ·obtain ⟨q, hq, rfl⟩ := List.mem_map.1 hp
   split
   ·exact hD.keys q hq
   ·exact hD.keys q hq
  ·obtain ⟨q, hq, rfl⟩ := List.mem_map.1 hp
   split
   ·rename_i e
    show NatAt w' x.val (nsN ns q.1)
    rw [e]; exact hx.kept hk hno
   ·exact (hD.nums q hq).kept hk hno
 ·have hR' : NRep (D.put (.int .i64 a) x.dat) (L ++ [(a, x)]) := Rep.put hR (fun a b _ _ e => by injection e) (fun _ => trivial) ha hm x
  refine ⟨w', _, hrun, ⟨⟨_, hR'.size ▸ ownsMap_norm h1, hR'⟩, fun p hp => ?_, fun p hp => ?_⟩, hk⟩
  ·rcases List.mem_append.1 hp with h | h
   ·exact hD.keys p h
   ·rw [List.mem_singleton] at h; subst h; exact ht
  ·rcases List.mem_append.1 hp with h | h
   ·exact (hD.nums p h).kept hk hno
   ·rw [List.mem_singleton] at h; subst h; exact hx.kept hk hno
end
structure BoxAt (w : World) (bx : Nat) : Prop where
 lt : bx < w.heap.size
 c : w.cell? ⟨bx, 0, none⟩ = some (.slice none 0 0)
 f : w.frozen? ⟨bx, 0, none⟩ = false
 no : ∀ o n, w.cell? ⟨bx, o, none⟩ ≠ some (.int .u64 n)
theorem BoxAt.kept {S : Nat -> Prop} {w w' : World} {bx : Nat} (h : BoxAt w bx) (hk : Kept S w w') (hn : ¬ S bx) : BoxAt w' bx :=
 ⟨Nat.lt_of_lt_of_le h.lt hk.size, (hk.cell (a := ⟨bx, 0, none⟩) h.lt hn).trans h.c, (hk.frozen (a := ⟨bx, 0, none⟩) h.lt hn).trans h.f, fun o n => by rw [hk.cell (a := ⟨bx, o, none⟩) h.lt hn]; exact h.no o n⟩
theorem BoxAt.new {w w' : World} {bx : Nat} (h : BoxAt w bx) (hb : Below w.heap.size w w') : BoxAt w' bx := h.kept (Kept.of_below hb (fun _ => False)) (fun h => h)
theorem boxAt_new (w : World) : BoxAt (w.alloc (.cells #[.slice none 0 0] 38)) w.heap.size := ⟨by simp, by simp, by simp, box_new w⟩
structure CS (B s b dk : Nat) (O : Nat -> Prop) (vars : Nat) (room : Int) (ns : List Nd) (W0 w : World) (nb bx : Nat) (gv gl gh : Int) (L : List (Int × NV)) : Prop where
 space : SpaceAt B w s b O vars room ns
 done : DoneN w dk vars ns L
 tri : Tri w nb gv gl gh
 box : BoxAt w bx
 kept : Kept (fun j => j = dk) W0 w
section
variable {B s b dk : Nat} {O : Nat -> Prop} {vars : Nat} {room : Int} {ns : List Nd} {W0 w w' : World} {nb bx : Nat} {gv gl gh : Int} {L : List (Int × NV)}
theorem CS.new (h : CS B s b dk O vars room ns W0 w nb bx gv gl gh L) (hb : Below w.heap.size w w') : CS B s b dk O vars room ns W0 w' nb bx gv gl gh L :=
 ⟨h.space.new hb, h.done.new hb, h.tri.new hb, h.box.new hb, h.kept.trans (Kept.of_below hb _)⟩
theorem CS.ways {d : Nat} (hW : WaysOk B s b dk O vars room ns d) (ho : ¬ O dk) (hs : s ≠ dk) (hn : nb ≠ dk) (hx : bx ≠ dk) (h : CS B s b dk O vars room ns W0 w nb bx gv gl gh L) (g : Int) (hh : hasB ns g = true) (hd : 24 <= topOf ns g + d) :
  Calls Tryz.prog 30 #[.pointer (some ⟨s, 0, none⟩), .int .i64 g, .map (some dk)] w fun e w' => ∃ r L', e = .returned r /\ NatAt w' r (nsN ns g) /\ CS B s b dk O vars room ns W0 w' nb bx gv gl gh L' /\ Kept (fun j => j = dk) w w' := by
 refine (hW g L w h.space h.done hh hd).mono ?_
 rintro e w2 ⟨r, L', he, hr, hD, hk⟩
 exact ⟨r, L', he, hr, ⟨h.space.kept hk (fun j hj e => ho (e ▸ hj)) hs, hD, h.tri.kept hk hn, h.box.kept hk hx, h.kept.trans hk⟩, hk⟩
theorem CS.add (h : CS B s b dk O vars room ns W0 w nb bx gv gl gh L) {r1 r2 : Value} {m1 m2 : Nat} (h1 : NatAt w r1 m1) (h2 : NatAt w r2 m2) (l1 : m1 <= 100000000) (l2 : m2 <= 100000000) :
  Calls Tryz.prog 61 #[r1, r2] w fun e w' => ∃ a n c, e = .returned (.agg #[.slice a n c]) /\ NatAt w' (.agg #[.slice a n c]) (m1 + m2) /\ CS B s b dk O vars room ns W0 w' nb bx gv gl gh L /\ Below w.heap.size w w' := by
 obtain ⟨s1, d1, rfl, g1, n1, v1, k1⟩ := h1.open l1
 obtain ⟨s2, d2, rfl, g2, n2, v2, k2⟩ := h2.open l2
 refine (add_any s1 s2 d1 d2 w g1 g2 n1.small n2.small (by omega) (by omega)).mono ?_
 rintro e w2 ⟨s3, he, d3, g3, n3, v3, -, hb⟩
 have hn := natAt_mk g3 n3 v3
 rw [v1, v2] at hn
 obtain ⟨a, c, e3, -⟩ := id g3
 subst e3
 exact ⟨a, _, c, he, hn, h.new hb, hb⟩
end
section
variable {B s b dk : Nat} {O : Nat -> Prop} {vars : Nat} {room : Int} {ns : List Nd} {W0 w w' : World} {nb bx : Nat} {gv gl gh : Int} {L : List (Int × NV)}
def Summed (B s b dk : Nat) (O : Nat -> Prop) (vars : Nat) (room : Int) (ns : List Nd) (W0 : World) (nb bx : Nat) (gv gl gh : Int) (m : Nat) (pv : Value) (wx : World) : Prop :=
 ∃ bx2 a n c L3, pv = .pointer (some ⟨bx2, 0, none⟩) /\ wx.cell? ⟨bx2, 0, none⟩ = some (.slice a n c) /\ bx2 < wx.heap.size /\ bx2 ≠ dk /\ bx2 ≠ bx /\ NatAt wx (.agg #[.slice a n c]) m /\ CS B s b dk O vars room ns W0 wx nb bx gv gl gh L3
theorem CS.sum (h : CS B s b dk O vars room ns W0 w nb bx gv gl gh L) {bx2 : Nat} (hb : BoxAt w bx2) (h0 : W0.heap.size <= bx2) (hO : ∀ k, O k -> k < W0.heap.size) (hs : s < W0.heap.size) (hd : dk < W0.heap.size) (hn : bx2 ≠ nb) (hx : bx2 ≠ bx) {a : Option Addr} {n c m : Nat} (hm : NatAt w (.agg #[.slice a n c]) m) :
  Summed B s b dk O vars room ns W0 nb bx gv gl gh m (.pointer (some ⟨bx2, 0, none⟩)) (w.setCell ⟨bx2, 0, none⟩ (.slice a n c)) := by
 have hk : Kept (fun j => j = bx2) w (w.setCell ⟨bx2, 0, none⟩ (.slice a n c)) := Kept.setCell _ _ _ rfl
 refine ⟨bx2, a, n, c, L, rfl, World.cell?_setCell_same _ _ _ hb.c, Nat.lt_of_lt_of_le hb.lt hk.size, by omega, hx, hm.box hb.no _, ⟨h.space.kept hk (fun j hj e => by have := hO j hj; omega) (by omega), h.done.box hb.no (by omega) _, h.tri.kept hk (fun e => hn e.symm), h.box.kept hk (fun e => hx e.symm), h.kept.andThen hk (fun i hi hlt => by omega)⟩⟩
theorem CS.sum_new (h : CS B s b dk O vars room ns W0 w nb bx gv gl gh L) (hd : dk < w.heap.size) {a : Option Addr} {n c m : Nat} (hm : NatAt w (.agg #[.slice a n c]) m) :
  Summed B s b dk O vars room ns W0 nb bx gv gl gh m (.pointer (some ⟨w.heap.size, 0, none⟩)) (w.alloc (.cells #[.slice a n c] 38)) :=
 ⟨w.heap.size, a, n, c, L, rfl, by simp, by simp, by omega, by have := h.box.lt; omega, hm.new (below_new _ _), h.new (below_new _ _)⟩
theorem Summed.tri3 {m : Nat} {pv : Value} (h : Summed B s b dk O vars room ns W0 nb bx gv gl gh m pv w) : w.cell? ⟨nb, 0, none⟩ = some (.int .i64 gv) /\ w.cell? ⟨nb, 1, none⟩ = some (.int .i64 gl) /\ w.cell? ⟨nb, 2, none⟩ = some (.int .i64 gh) := by
 obtain ⟨_, _, _, _, _, -, -, -, -, -, -, hc⟩ := h
 exact ⟨hc.tri.c0, hc.tri.c1, hc.tri.c2⟩
theorem below_makes (hg : Good vars ns) (hl : ns.length <= 90000) (_hv : vars <= 24) (ho : ¬ O dk) (hs : s ≠ dk) {d : Nat} (hW : WaysOk B s b dk O vars room ns d) (h : Int) (L : List (Int × NV)) (w : World) (hS : SpaceAt B w s b O vars room ns) (hD : DoneN w dk vars ns L) (hh : hasB ns h = true) (ht : topOf ns h ≠ 24) (hd : 24 <= topOf ns h + ((d + 1 : Nat) : Int)) (hnk : h ∉ L.map Prod.fst) :
  Calls Tryz.prog 30 #[.pointer (some ⟨s, 0, none⟩), .int .i64 h, .map (some dk)] w (CntOut dk vars ns (nsN ns h) w) := by
 have hi := has_i64 hh (by omega)
 have hb1 := below_new w (.cells #[.slice none 0 0] 38)
 have c0 := (hS.new hb1).c0
 have HG := spGet (hS.new hb1) h hi hl
 have h0 := (topOf_le hg.ranked h).1
 have ht24 := top_lt hg.ranked ht
 obtain ⟨k1, k2, k3, k4⟩ := kids hg.ranked ht
 have hsum := nsN_node hg.ranked ht
 have hgv : (getOf ns h).v = topOf ns h := by rw [getOf_node ht]; exact (node_at ht).2.2.1.symm
 have hgn := getOf_node ht
 rw [show decide (topOf ns h ≠ 24) = true by simp [ht]] at HG
 unfold Nd.val at HG
 rw [<- hgn] at k1 k2 k3 k4 hsum
 have HL : Hid (∀ W, Below w.heap.size w W -> (Instr.lookup 68 (.map (some dk)) (.int .i64 h) true).run Tryz.prog W = .ok (.tuple #[.agg #[.slice none 0 0], .bool false]) W) := fun W hW => by
  obtain ⟨D, hDm, hR⟩ := (hD.new hW).hmap
  exact nlook_none hDm hR hi hnk
 obtain ⟨t, et⟩ : ∃ t : Nat, topOf ns h = (t : Int) := ⟨(topOf ns h).toNat, by omega⟩
 have hPUT : Hid (∀ W L' x, DoneN W dk vars ns L' -> NatAt W (NV.val x) (nsN ns h) -> ∃ w' L'', (Instr.mapUpdate 68 (.map (some dk)) (.int .i64 h) x.val).run Tryz.prog W = .ok () w' /\ DoneN w' dk vars ns L'' /\ Kept (fun j => j = dk) W w') := fun W L' x h1 h2 => done_put h1 hi ht x h2 hl
 rw [et] at hgv ht24 k1 k3 hd
 generalize getOf ns h = gn at *
 obtain ⟨gv, gl, gh⟩ := gn
 simp only at hgv k1 k2 k3 k4 hsum HG
 subst hgv
 have HW1 : Hid (∀ X L' nb bx, nb ≠ dk -> bx ≠ dk -> CS B s b dk O vars room ns w X nb bx (t : Int) gl gh L' -> Calls Tryz.prog 30 #[.pointer (some ⟨s, 0, none⟩), .int .i64 gl, .map (some dk)] X fun e w' => ∃ r L', e = .returned r /\ NatAt w' r (nsN ns gl) /\ CS B s b dk O vars room ns w w' nb bx (t : Int) gl gh L' /\ Kept (fun j => j = dk) X w') := fun X L' nb bx h1 h2 hc =>
  hc.ways hW ho hs h1 h2 gl k2 (by omega)
 have HW2 : Hid (∀ X L' nb bx, nb ≠ dk -> bx ≠ dk -> CS B s b dk O vars room ns w X nb bx (t : Int) gl gh L' -> Calls Tryz.prog 30 #[.pointer (some ⟨s, 0, none⟩), .int .i64 gh, .map (some dk)] X fun e w' => ∃ r L', e = .returned r /\ NatAt w' r (nsN ns gh) /\ CS B s b dk O vars room ns w w' nb bx (t : Int) gl gh L' /\ Kept (fun j => j = dk) X w') := fun X L' nb bx h1 h2 hc =>
  hc.ways hW ho hs h1 h2 gh k4 (by omega)
 have l1 : nsN ns gl <= 100000000 := by have := nsN_le ns gl; omega
 have l2 : nsN ns gh <= 100000000 := by have := nsN_le ns gh; omega
 have hOw : ∀ k, O k -> k < w.heap.size := fun k hk => (hS.own k hk).2
 have hsl := hS.slt
 have hdl := hD.lt
 have HGT := Lib.hid HG
 have HS := Lib.hid hS
 have HD := Lib.hid hD
 have HB1 := Lib.hid hb1
 have HSUM := Lib.hid hsum
 have HOW := Lib.hid hOw
 have BX := Lib.hid (boxAt_new w)
 clear HG hS hD hh ht hb1 hsum hOw hW hg k1 k2 k3 k4 hnk hgn et
 generalize nsN ns h = m at *
 generalize nsN ns gl = m1 at *
 generalize nsN ns gh = m2 at *
 have bxl := BX.out.lt
 go_enter Tryz.func30, Tryz.ntmps30
 go_wp2_with fail
 refine HGT.out.mono ?_
 rintro e w2 ⟨rfl, hb2⟩
 generalize (w.alloc (.cells #[.slice none 0 0] 38)) = W1 at *
 have hb3 := hb2.alloc hb2.size (.cells #[.int .i64 (t : Int), .int .i64 gl, .int .i64 gh] 83)
 have hb4 := HB1.out.trans (hb3.mono HB1.out.size)
 have hrun := HL.out _ hb4
 have hs2 := hb2.size
 have hb5 := below_new (w2.alloc (.cells #[.int .i64 (t : Int), .int .i64 gl, .int .i64 gh] 83)) (.cells #[.slice none 0 0] 38)
 have cs : CS B s b dk O vars room ns w ((w2.alloc (.cells #[.int .i64 (t : Int), .int .i64 gl, .int .i64 gh] 83)).alloc (.cells #[.slice none 0 0] 38)) w2.heap.size w.heap.size (t : Int) gl gh L :=
  CS.new ⟨HS.out.new hb4, HD.out.new hb4, tri_new w2 (t : Int) gl gh 83, BX.out.new hb3, Kept.of_below hb4 _⟩ hb5
 have HCS := Lib.hid cs
 clear hb2 hb3 hb4 hb5 cs HGT HL HS HD BX c0
 go_wp2_with fail
 generalize ((w2.alloc (.cells #[.int .i64 (t : Int), .int .i64 gl, .int .i64 gh] 83)).alloc (.cells #[.slice none 0 0] 38)) = W4 at *
 have cs0 := HCS.out.new (Below.refl _ _).drew
 have csA := (HCS.out.new (below_new W4 (.cells #[.slice none 0 0] 38))).new (Below.refl _ _).drew
 have nd1 : w2.heap.size ≠ dk := by omega
 have nd2 : w.heap.size ≠ dk := by omega
 have nn1 : w.heap.size < w2.heap.size := by omega
 have w4l : w2.heap.size < W4.heap.size := HCS.out.tri.lt
 have HNO : Hid (∀ X L', CS B s b dk O vars room ns w X w2.heap.size w.heap.size (t : Int) gl gh L' -> ∀ b o n, b = dk -> X.cell? ⟨b, o, none⟩ ≠ some (.int .u64 n)) := fun X L' hc b o n e => hc.done.no b o n e
 have nA : W4.heap.size ≠ dk := by omega
 have nB : w.heap.size <= W4.heap.size := by omega
 have nC : W4.heap.size ≠ w2.heap.size := by omega
 have nD : W4.heap.size ≠ w.heap.size := by omega
 clear hrun
 go_cut [11] (fun pv wx => Summed B s b dk O vars room ns w w2.heap.size w.heap.size (t : Int) gl gh m pv wx)
 case first =>
  go_region_held3 (fun X => X.cell? ⟨w2.heap.size, 0, none⟩ = some (.int .i64 (t : Int)) /\ X.cell? ⟨w2.heap.size, 1, none⟩ = some (.int .i64 gl) /\ X.cell? ⟨w2.heap.size, 2, none⟩ = some (.int .i64 gh))
   (first
    | exact ⟨cs0.tri.c0, cs0.tri.c1, cs0.tri.c2⟩
    | exact ⟨csA.tri.c0, csA.tri.c1, csA.tri.c2⟩
    | exact ⟨cs2.tri.c0, cs2.tri.c1, cs2.tri.c2⟩
    | exact ⟨(cs2.new (below_new _ _)).tri.c0, (cs2.new (below_new _ _)).tri.c1, (cs2.new (below_new _ _)).tri.c2⟩
    | exact ⟨cs3.tri.c0, cs3.tri.c1, cs3.tri.c2⟩
    | exact ⟨(cs3.new (below_new _ _)).tri.c0, (cs3.new (below_new _ _)).tri.c1, (cs3.new (below_new _ _)).tri.c2⟩
    | exact hsm.tri3
    | exact ⟨cs7.tri.c0, cs7.tri.c1, cs7.tri.c2⟩
    | exact ⟨(cs7.new (below_new _ _)).tri.c0, (cs7.new (below_new _ _)).tri.c1, (cs7.new (below_new _ _)).tri.c2⟩)
   (first
    | (go_at_call 30; with_reducible refine (HW1.out _ _ _ _ nd1 nd2 cs0).mono ?_; rintro e w5 ⟨r1, L1, rfl, hn1, cs2, hk1⟩)
    | (go_at_call 30; with_reducible refine (HW1.out _ _ _ _ nd1 nd2 csA).mono ?_; rintro e w5 ⟨r1, L1, rfl, hn1, cs2, hk1⟩)
    | (go_at_call 30; with_reducible refine (HW2.out _ _ _ _ nd1 nd2 cs2).mono ?_; rintro e w6 ⟨r2, L2, rfl, hn2, cs3, hk2⟩; have hn3 := hn1.kept hk2 (HNO.out _ _ cs2))
    | (go_at_call 30; with_reducible refine (HW2.out _ _ _ _ nd1 nd2 (cs2.new (below_new _ _))).mono ?_; rintro e w6 ⟨r2, L2, rfl, hn2, cs3, hk2⟩; have hn3 := (hn1.new (below_new _ _)).kept hk2 (HNO.out _ _ (cs2.new (below_new _ _))))
    | (go_at_call 61; (with_reducible refine (cs3.add hn3 hn2 l1 l2).mono ?_); rintro e w7 ⟨a7, n7, c7, rfl, hn7, cs7, hb7⟩; rw [<- HSUM.out] at hn7; have hbx : BoxAt w7 W4.heap.size := ((((boxAt_new W4).new (Below.refl _ _).drew).kept hk1 nA).kept hk2 nA).new hb7; have hsm := cs7.sum hbx nB HOW.out hsl hdl nC nD hn7; have q1 := hbx.c; have q2 := hbx.f)
    | (go_at_call 61; (with_reducible refine (cs3.add hn3 hn2 l1 l2).mono ?_); rintro e w7 ⟨a7, n7, c7, rfl, hn7, cs7, hb7⟩; rw [<- HSUM.out] at hn7; have z1 : W4.heap.size <= w5.heap.size := hk1.size; have hbx : BoxAt w7 w5.heap.size := ((boxAt_new w5).kept hk2 (show w5.heap.size ≠ dk by omega)).new hb7; have hsm := cs7.sum hbx (by omega) HOW.out hsl hdl (by omega) (by omega) hn7; have q1 := hbx.c; have q2 := hbx.f)
    | (go_at_call 61; (with_reducible refine ((cs3.new (below_new _ _)).add (hn3.new (below_new _ _)) (hn2.new (below_new _ _)) l1 l2).mono ?_); rintro e w7 ⟨a7, n7, c7, rfl, hn7, cs7, hb7⟩; rw [<- HSUM.out] at hn7; have z1 : W4.heap.size <= w5.heap.size := hk1.size; have z2 : w5.heap.size <= w6.heap.size := hk2.size; have hbx : BoxAt w7 w6.heap.size := (boxAt_new w6).new hb7; have hsm := cs7.sum hbx (by omega) HOW.out hsl hdl (by omega) (by omega) hn7; have q1 := hbx.c; have q2 := hbx.f)
    | (go_at_call 61; (with_reducible refine (cs3.add hn3 hn2 l1 l2).mono ?_); rintro e w7 ⟨a7, n7, c7, rfl, hn7, cs7, hb7⟩; rw [<- HSUM.out] at hn7; have hsm := cs7.sum_new (Nat.lt_of_lt_of_le hdl cs7.kept.size) hn7))
  all_goals
   go_wp2_with fail
   go_meet
   case rel => exact hsm
 case rest =>
  obtain ⟨bx2, a, n, c, L3, rfl, hc2, hl2, hd2, hx2, hn, cs3⟩ := hcut
  obtain ⟨w8, L4, hrun, hD8, hk8⟩ := hPUT.out wc L3 ⟨a, n, c⟩ cs3.done hn
  unfold NV.val at hrun
  have hc8 := (hk8.cell (a := ⟨bx2, 0, none⟩) hl2 hd2).trans hc2
  have hb8 := cs3.box.kept hk8 nd2
  have bc8 := hb8.c
  have bf8 := hb8.f
  have hn8 := hn.kept hk8 (HNO.out _ _ cs3)
  have hcs : (w8.setCell ⟨w.heap.size, 0, none⟩ (.slice a n c)).cell? ⟨w.heap.size, 0, none⟩ = some (.slice a n c) := World.cell?_setCell_same _ _ _ bc8
  have hk : Kept (fun j => j = dk) w (w8.setCell ⟨w.heap.size, 0, none⟩ (.slice a n c)) := (cs3.kept.trans hk8).andThen (Kept.setCell (S := fun j => j = w.heap.size) _ _ _ rfl) (fun i hi hlt => by omega)
  have HFIN : Hid (CntOut dk vars ns m w (.returned (.agg #[.slice a n c])) (w8.setCell ⟨w.heap.size, 0, none⟩ (.slice a n c))) := ⟨_, L4, rfl, hn8.box hb8.no _, hD8.box hb8.no nd2 _, hk⟩
  clear hn cs3 hD8 hk8 hb8 hn8 hk HW1 HW2 HNO hPUT HCS cs0 csA HOW
  go_wp2
  refine bodyPost_ret (v := .agg #[.slice a n c]) (by simp [results, Tryz.results30, go_sem, hcs]) rfl HFIN.out
theorem ways_any (hg : Good vars ns) (hl : ns.length <= 90000) (hv : vars <= 24) (ho : ¬ O dk) (hs : s ≠ dk) : ∀ d, WaysOk B s b dk O vars room ns d
 | 0 => fun h L w hS hD hh hd => below_ends hl hv h L w hS hD hh (by have := (topOf_le hg.ranked h).2; omega)
 | d + 1 => fun h L w hS hD hh hd => by
  by_cases ht : topOf ns h = 24
  ·exact below_ends hl hv h L w hS hD hh ht
  ·by_cases hk : h ∈ L.map Prod.fst
   ·obtain ⟨p, hp, rfl⟩ := List.mem_map.1 hk
    exact below_found hl L w hS hD p hp hh
   ·exact below_makes hg hl hv ho hs (ways_any hg hl hv ho hs d) h L w hS hD hh ht hd hk
end
end Go.Proofs.YtbklgjmkdhinpaaGreatDoor.Fm
