/- below: an end; what was counted already. -/
import Derived.Test.YtcjjekhecjmaeaaGreatDoorBdNMap
import Derived.Test.YtcjjekhecjmaeaaGreatDoorCnOf
import Derived.Test.YtcjjekhecjmaeaaGreatDoorCnAdd
import Derived.Test.YtcjjekhecjmaeaaGreatDoorCnDouble
set_option maxHeartbeats 2000000
set_option maxRecDepth 100000
namespace Go.Proofs.YtcjjekhecjmaeaaGreatDoor
section
open Go.RowKit Go.Maps Num
def NatAt (w : World) (v : Value) (m : Nat) : Prop := ∃ x : NV, v = x.val /\ ∃ ds, Dig .u64 w (.slice x.a x.n x.c) ds /\ Norm 1000000000 ds /\ val 1000000000 ds = m
theorem NatAt.new {w w' : World} {v : Value} {m : Nat} (h : NatAt w v m) (hb : Below w.heap.size w w') : NatAt w' v m := by
 obtain ⟨x, e, ds, h1, h2, h3⟩ := h
 exact ⟨x, e, ds, h1.below hb, h2, h3⟩
theorem NatAt.kept {S : Nat -> Prop} {w w' : World} {v : Value} {m : Nat} (h : NatAt w v m) (hk : Kept S w w') (hn : ∀ b o n, S b -> w.cell? ⟨b, o, none⟩ ≠ some (.int .u64 n)) : NatAt w' v m := by
 obtain ⟨x, e, ds, ⟨a, cap, hv, hc, hi⟩, h2, h3⟩ := h
 refine ⟨x, e, ds, ⟨a, cap, hv, hc, fun i hl => ?_⟩, h2, h3⟩
 obtain ⟨b, off, ha, hb, hcell⟩ := hi i hl
 exact ⟨b, off, ha, Nat.lt_of_lt_of_le hb hk.size, (hk.cell (a := ⟨b, off + i, none⟩) hb (fun hs => hn b _ _ hs hcell)).trans hcell⟩
theorem natAt_mk {w : World} {s : Value} {ds : List Nat} {m : Nat} (h : Dig .u64 w s ds) (hN : Norm 1000000000 ds) (hv : val 1000000000 ds = m) : NatAt w (.agg #[s]) m := by
 have h0 := h
 obtain ⟨a, cap, e, -⟩ := h0
 subst e
 exact ⟨⟨a, ds.length, cap⟩, rfl, ds, h, hN, hv⟩
theorem NatAt.open {w : World} {v : Value} {m : Nat} (h : NatAt w v m) (hm : m <= 100000000) : ∃ s ds, v = .agg #[s] /\ Dig .u64 w s ds /\ Norm 1000000000 ds /\ val 1000000000 ds = m /\ ds.length <= 1 := by
 obtain ⟨x, e, ds, h1, h2, h3⟩ := h
 exact ⟨_, ds, e, h1, h2, h3, norm_len (by omega) h2 (by rw [h3]; omega)⟩
structure DoneN (w : World) (dk vars : Nat) (ns : List Nd) (L : List (Int × NV)) : Prop where
 hmap : ∃ D, w.ownsMap Tryz.prog 3 natR dk L.length D /\ NRep D L
 keys : ∀ p ∈ L, topOf ns p.1 ≠ 24
 nums : ∀ p ∈ L, NatAt w p.2.val (belowN vars ns p.1)
section
variable {w w' : World} {dk vars : Nat} {ns : List Nd} {L : List (Int × NV)}
theorem DoneN.lt (h : DoneN w dk vars ns L) : dk < w.heap.size := by obtain ⟨D, hD, -⟩ := h.hmap; exact hD.lt
theorem DoneN.none (h : DoneN w dk vars ns L) (o : Nat) : w.cell? ⟨dk, o, none⟩ = none := by
 obtain ⟨D, ⟨es, clock, hb, -⟩, -⟩ := h.hmap
 unfold World.cell?
 simp only [hb]
theorem DoneN.kept {S : Nat -> Prop} (h : DoneN w dk vars ns L) (hk : Kept S w w') (hn : ¬ S dk) (hc : ∀ b o n, S b -> w.cell? ⟨b, o, Option.none⟩ ≠ some (.int .u64 n)) : DoneN w' dk vars ns L := by
 obtain ⟨D, hD, hR⟩ := h.hmap
 exact ⟨⟨D, ownsMap_kept hD hk hn, hR⟩, h.keys, fun p hp => (h.nums p hp).kept hk hc⟩
theorem DoneN.new (h : DoneN w dk vars ns L) (hb : Below w.heap.size w w') : DoneN w' dk vars ns L := h.kept (Kept.of_below hb (fun _ => False)) (fun h => h) (fun _ _ _ h => h.elim)
theorem DoneN.no (h : DoneN w dk vars ns L) (b o : Nat) (n : Int) (e : b = dk) : w.cell? ⟨b, o, Option.none⟩ ≠ some (.int .u64 n) := by rw [e, h.none]; exact fun h => by cases h
theorem box_new (w : World) (o : Nat) (n : Int) : (w.alloc (.cells #[.slice none 0 0] 30)).cell? ⟨w.heap.size, o, Option.none⟩ ≠ some (.int .u64 n) := by
 cases o with
 | zero => simp
 | succ o => simp
theorem NatAt.box {v : Value} {m bx : Nat} (h : NatAt w v m) (hb : ∀ o n, w.cell? ⟨bx, o, Option.none⟩ ≠ some (.int .u64 n)) (u : Value) : NatAt (w.setCell ⟨bx, 0, Option.none⟩ u) v m :=
 h.kept (S := fun j => j = bx) (Kept.setCell _ _ _ rfl) (fun b o n e => by rw [e]; exact hb o n)
theorem DoneN.box {bx : Nat} (h : DoneN w dk vars ns L) (hb : ∀ o n, w.cell? ⟨bx, o, Option.none⟩ ≠ some (.int .u64 n)) (hne : bx ≠ dk) (u : Value) : DoneN (w.setCell ⟨bx, 0, Option.none⟩ u) dk vars ns L :=
 h.kept (S := fun j => j = bx) (Kept.setCell _ _ _ rfl) (fun e => hne e.symm) (fun b o n e => by rw [e]; exact hb o n)
theorem nodup_le : ∀ (n : Nat) (l : List Nat), l.Nodup -> (∀ x ∈ l, x < n) -> l.length <= n
 | 0, l, _, h => by
  cases l with
  | nil => simp
  | cons a l => have := h a (List.mem_cons_self ..); omega
 | n + 1, l, hd, h => by
  have ih := nodup_le n (l.erase n) (hd.erase n) (fun x hx => by
   have h1 := (hd.mem_erase_iff).1 hx
   have h2 := h x h1.2
   have h3 := h1.1
   omega)
  by_cases hm : n ∈ l
  ·rw [List.length_erase_of_mem hm] at ih; omega
  ·rw [List.erase_of_not_mem hm] at ih; omega
theorem DoneN.len (h : DoneN w dk vars ns L) : L.length <= ns.length := by
 obtain ⟨D, -, hR⟩ := h.hmap
 have hk : ∀ p ∈ L, p.1 = 2 + (pl p.1 : Int) /\ pl p.1 < ns.length := fun p hp => ⟨(node_at (h.keys p hp)).2.2.2, (node_at (h.keys p hp)).2.1⟩
 have hd := Rep.nodup hR
 have := nodup_le ns.length (L.map fun p => pl p.1) (by
  have e : (L.map fun p => pl p.1) = (L.map Prod.fst).map pl := by simp
  rw [e]
  refine (List.nodup_iff_pairwise_ne.1 hd |> fun hp => ?_)
  refine List.nodup_iff_pairwise_ne.2 (List.pairwise_map.2 (hp.imp_of_mem fun {a b} ha hb hab e => hab ?_))
  obtain ⟨p, hp1, rfl⟩ := List.mem_map.1 ha
  obtain ⟨q, hq1, rfl⟩ := List.mem_map.1 hb
  rw [(hk p hp1).1, (hk q hq1).1, e]) (fun x hx => by
  obtain ⟨p, hp1, rfl⟩ := List.mem_map.1 hx
  exact (hk p hp1).2)
 simpa using this
end
def CntOut (dk vars : Nat) (ns : List Nd) (m : Nat) (w : World) (e : Ending) (w' : World) : Prop :=
 ∃ v L', e = .returned v /\ NatAt w' v m /\ DoneN w' dk vars ns L' /\ Kept (fun j => j = dk) w w'
def BelowOk (B s b dk : Nat) (O : Nat -> Prop) (vars : Nat) (room : Int) (ns : List Nd) (d : Nat) : Prop :=
 ∀ (h : Int) (L : List (Int × NV)) (w : World), SpaceAt B w s b O vars room ns -> DoneN w dk vars ns L -> hasB ns h = true -> 24 <= topOf ns h + d ->
  Calls Tryz.prog 73 #[.pointer (some ⟨s, 0, none⟩), .int .i64 h, .map (some dk)] w (CntOut dk vars ns (belowN vars ns h) w)
def WaysOk (B s b dk : Nat) (O : Nat -> Prop) (vars : Nat) (room : Int) (ns : List Nd) (d : Nat) : Prop :=
 ∀ (h : Int) (v : Nat) (L : List (Int × NV)) (w : World), SpaceAt B w s b O vars room ns -> DoneN w dk vars ns L -> hasB ns h = true -> 24 <= topOf ns h + d -> v <= topN vars ns h ->
  Calls Tryz.prog 35 #[.pointer (some ⟨s, 0, none⟩), .int .i64 h, .int .i64 (v : Int), .map (some dk)] w (CntOut dk vars ns (waysN vars ns h v) w)
theorem ways_le (vars : Nat) (ns : List Nd) (h : Int) (v : Nat) (hv : vars <= 24) : waysN vars ns h v <= 16777216 := by
 unfold waysN
 have h1 := cntV_le (sem ns h) (vars - v) v (fun _ => false)
 have h2 : 2 ^ (vars - v) <= 2 ^ 24 := Nat.pow_le_pow_right (by omega) (by omega)
 have h3 : 2 ^ 24 = 16777216 := by decide
 omega
section
variable {B s b dk : Nat} {O : Nat -> Prop} {vars : Nat} {room : Int} {ns : List Nd}
theorem ways_step (hg : Good vars ns) (hl : ns.length <= 90000) (hv : vars <= 24) {d : Nat} (ih : BelowOk B s b dk O vars room ns d) : WaysOk B s b dk O vars room ns d := by
 intro h v L w hS hD hh hd hvt
 have hi := has_i64 hh (by omega)
 have hb1 := below_new w (.cells #[.slice none 0 0] 30)
 have HT : Hid (∀ X, Below w.heap.size w X -> Calls Tryz.prog 37 #[.pointer (some ⟨b, 0, none⟩), .int .i64 h] X fun e w' => e = .returned (.int .i64 (topOf ns h)) /\ X = w') := fun X hX => spTop (hS.new hX) h hi hl
 have SC : Hid (∀ X, Below w.heap.size w X -> X.cell? ⟨s, 0, none⟩ = some (.pointer (some ⟨b, 0, none⟩)) /\ X.cell? ⟨s, 1, none⟩ = some (.int .i64 (vars : Int))) := fun X hX => ⟨(hS.new hX).c0, (hS.new hX).c1⟩
 have HC : Hid (∀ X, Below w.heap.size w X -> Calls Tryz.prog 73 #[.pointer (some ⟨s, 0, none⟩), .int .i64 h, .map (some dk)] X (CntOut dk vars ns (belowN vars ns h) X)) := fun X hX => ih h L X (hS.new hX) (hD.new hX) hh hd
 have h0 := (topOf_le hg.ranked h).1
 have htop : min (topOf ns h) (vars : Int) = (topN vars ns h : Int) := by unfold topN; omega
 have hgap := ways_gap hg (h := h) (topN vars ns h - v) v (by omega)
 have hbl : belowN vars ns h <= 16777216 := ways_le vars ns h _ hv
 have htl : topN vars ns h <= 24 := by unfold topN; omega
 have hdl := hD.lt
 have hsl := hS.slt
 have e1 : IntKind.i64.wrap ((topN vars ns h : Int) - (v : Int)) = ((topN vars ns h - v : Nat) : Int) := by
  rw [show ((topN vars ns h : Int) - (v : Int)) = ((topN vars ns h - v : Nat) : Int) by omega]
  exact IntWalk.i64_in _ ⟨by omega, by omega⟩
 have HGAP := Lib.hid hgap
 have HBL := Lib.hid hbl
 have HB1 := Lib.hid hb1
 have hS0 := SC.out _ hb1.drew
 have bxl : w.heap.size < (w.alloc (.cells #[.slice none 0 0] 30)).heap.size := by simp
 have bc : (w.alloc (.cells #[.slice none 0 0] 30)).cell? ⟨w.heap.size, 0, none⟩ = some (.slice none 0 0) := by simp
 have bf : (w.alloc (.cells #[.slice none 0 0] 30)).frozen? ⟨w.heap.size, 0, none⟩ = false := by simp
 have bo : ∀ o n, (w.alloc (.cells #[.slice none 0 0] 30)).drew.cell? ⟨w.heap.size, o, none⟩ ≠ some (.int .u64 n) := fun o n => box_new w o n
 have BO := Lib.hid bo
 clear bo
 have HTP := Lib.hid htop
 have E1 := Lib.hid e1
 clear ih hS hD hg hh hgap hbl hb1 htop e1
 generalize belowN vars ns h = m at *
 generalize waysN vars ns h v = r at *
 generalize topN vars ns h = tn at *
 generalize topOf ns h = tp at *
 go_enter Tryz.func35, Tryz.ntmps35
 go_wp2_with fail
 go_region_held3 (fun X => X.cell? ⟨s, 0, none⟩ = some (.pointer (some ⟨b, 0, none⟩)) /\ X.cell? ⟨s, 1, none⟩ = some (.int .i64 (vars : Int))) (exact hS0)
  (first | (go_at_call 37; with_reducible refine (HT.out _ HB1.out.drew).mono ?_; rintro e wz ⟨rfl, rfl⟩))
 simp only [HTP.out]
 have HC1 := Lib.hid (HC.out _ HB1.out.drew)
 have HB2 := Lib.hid HB1.out.drew
 have bxl2 : w.heap.size < (w.alloc (.cells #[.slice none 0 0] 30)).drew.heap.size := bxl
 have bc2 : (w.alloc (.cells #[.slice none 0 0] 30)).drew.cell? ⟨w.heap.size, 0, none⟩ = some (.slice none 0 0) := bc
 have bf2 : (w.alloc (.cells #[.slice none 0 0] 30)).drew.frozen? ⟨w.heap.size, 0, none⟩ = false := bf
 clear HC HT SC hS0 HB1 bxl bc bf
 generalize (w.alloc (.cells #[.slice none 0 0] 30)).drew = W1 at *
 go_wp2_with fail
 refine HC1.out.mono ?_
 rintro e w2 ⟨v2, L2, rfl, hn2, hD2, hk2⟩
 obtain ⟨s2, ds2, rfl, hdg, hnm, hvl, hlen⟩ := hn2.open (by have := HBL.out; omega)
 have hdo := double_any s2 ds2 ((tn - v : Nat) : Int) w2 hdg hnm (by omega) (by omega) (by omega)
 rw [hvl] at hdo
 have HDO := Lib.hid hdo
 have hne : w.heap.size ≠ dk := by omega
 have bc3 := (hk2.cell (a := ⟨w.heap.size, 0, none⟩) bxl2 hne).trans bc2
 have bf3 := (hk2.frozen (a := ⟨w.heap.size, 0, none⟩) bxl2 hne).trans bf2
 have bxl3 := Nat.lt_of_lt_of_le bxl2 hk2.size
 have HKC : Hid (∀ o, w2.cell? ⟨w.heap.size, o, none⟩ = W1.cell? ⟨w.heap.size, o, none⟩) := fun o => hk2.cell (a := ⟨w.heap.size, o, none⟩) bxl2 hne
 have HK2 := Lib.hid ((Kept.of_below HB2.out (fun j => j = dk)).trans hk2)
 have HD2 := Lib.hid hD2
 have e2 := E1.out
 clear HC1 hn2 hD2 hk2 hdg hnm hvl hlen hdo bc2 bf2 bxl2
 go_wp2_with fail
 refine HDO.out.mono ?_
 rintro e w3 ⟨v3, rfl, ds3, hdg3, hnm3, hvl3, -, hb3⟩
 have hnat := natAt_mk hdg3 hnm3 hvl3
 have hmn : (min ((tn - v : Nat) : Int) 1000).toNat = tn - v := by omega
 rw [hmn, <- HGAP.out] at hnat
 obtain ⟨a3, c3, e3, -⟩ := id hdg3
 subst e3
 have bc4 := (hb3.cell (p := ⟨w.heap.size, 0, none⟩) bxl3).trans bc3
 have bf4 := (hb3.frozen (p := ⟨w.heap.size, 0, none⟩) bxl3).trans bf3
 have hcs : (w3.setCell ⟨w.heap.size, 0, none⟩ (.slice a3 ds3.length c3)).cell? ⟨w.heap.size, 0, none⟩ = some (.slice a3 ds3.length c3) := World.cell?_setCell_same _ _ _ bc4
 have hno : ∀ o n, w3.cell? ⟨w.heap.size, o, none⟩ ≠ some (.int .u64 n) := fun o n => by
  rw [hb3.cell (p := ⟨w.heap.size, o, none⟩) bxl3, HKC.out o]
  exact BO.out o n
 have hk3 : Kept (fun j => j = dk) w (w3.setCell ⟨w.heap.size, 0, none⟩ (.slice a3 ds3.length c3)) := (HK2.out.trans (Kept.of_below hb3 _)).andThen (Kept.setCell (S := fun j => j = w.heap.size) _ _ _ rfl) (fun i hi hlt => by omega)
 have HFIN : Hid (CntOut dk vars ns r w (.returned (.agg #[.slice a3 ds3.length c3])) (w3.setCell ⟨w.heap.size, 0, none⟩ (.slice a3 ds3.length c3))) := ⟨_, L2, rfl, hnat.box hno _, (HD2.out.new hb3).box hno hne _, hk3⟩
 clear hdg3 hnm3 hvl3 hnat hno hk3 HK2 HD2 HDO hb3 bc3 bf3
 go_wp2
 refine bodyPost_ret (v := .agg #[.slice a3 ds3.length c3]) (by simp [results, Tryz.results35, go_sem, hcs]) rfl HFIN.out
end
end
section
open Go.RowKit Go.Maps Num
section
variable {B s b dk : Nat} {O : Nat -> Prop} {vars : Nat} {room : Int} {ns : List Nd}
theorem below_ends (hl : ns.length <= 90000) (hv : vars <= 24) (h : Int) (L : List (Int × NV)) (w : World) (hS : SpaceAt B w s b O vars room ns) (hD : DoneN w dk vars ns L) (hh : hasB ns h = true) (ht : topOf ns h = 24) :
  Calls Tryz.prog 73 #[.pointer (some ⟨s, 0, none⟩), .int .i64 h, .map (some dk)] w (CntOut dk vars ns (belowN vars ns h) w) := by
 have hi := has_i64 hh (by omega)
 have hb1 := below_new w (.cells #[.slice none 0 0] 30)
 have c0 := (hS.new hb1).c0
 have HG := spGet (hS.new hb1) h hi hl
 rw [show decide (topOf ns h ≠ 24) = false by simp [ht], show getOf ns h = ⟨0, 0, 0⟩ by unfold getOf; rw [if_pos ht]] at HG
 unfold Nd.val at HG
 have HGT := Lib.hid HG
 have hbe := below_end (vars := vars) hh ht hv
 have hdl := hD.lt
 have bxl : w.heap.size < (w.alloc (.cells #[.slice none 0 0] 30)).heap.size := by simp
 have bc : (w.alloc (.cells #[.slice none 0 0] 30)).cell? ⟨w.heap.size, 0, none⟩ = some (.slice none 0 0) := by simp
 have bf : (w.alloc (.cells #[.slice none 0 0] 30)).frozen? ⟨w.heap.size, 0, none⟩ = false := by simp
 have BO := Lib.hid (box_new w)
 have HB1 := Lib.hid hb1
 have HD := Lib.hid hD
 have HBE := Lib.hid hbe
 obtain ⟨hi0, hi1⟩ := hi
 clear HG hS hD hh ht hb1 hbe
 go_enter Tryz.func73, Tryz.ntmps73
 go_wp2_with fail
 refine HGT.out.mono ?_
 rintro e w2 ⟨rfl, hb2⟩
 generalize (w.alloc (.cells #[.slice none 0 0] 30)) = W1 at *
 have hb3 := hb2.alloc hb2.size (.cells #[.int .i64 0, .int .i64 0, .int .i64 0] 102)
 have HOF := Lib.hid (of_any h (w2.alloc (.cells #[.int .i64 0, .int .i64 0, .int .i64 0] 102)) hi0 hi1)
 have HB3 := Lib.hid hb3
 clear hb2 hb3 HGT c0
 go_wp2_with fail
 refine HOF.out.mono ?_
 rintro e w4 ⟨v4, rfl, ds4, hdg, hnm, hvl, hb4⟩
 have hb5 := HB3.out.trans (hb4.mono HB3.out.size)
 have hnat := natAt_mk hdg hnm hvl
 rw [<- HBE.out] at hnat
 obtain ⟨a4, c4, e4, -⟩ := id hdg
 subst e4
 have bc4 := (hb5.cell (p := ⟨w.heap.size, 0, none⟩) bxl).trans bc
 have bf4 := (hb5.frozen (p := ⟨w.heap.size, 0, none⟩) bxl).trans bf
 have hcs : (w4.setCell ⟨w.heap.size, 0, none⟩ (.slice a4 ds4.length c4)).cell? ⟨w.heap.size, 0, none⟩ = some (.slice a4 ds4.length c4) := World.cell?_setCell_same _ _ _ bc4
 have hno : ∀ o n, w4.cell? ⟨w.heap.size, o, none⟩ ≠ some (.int .u64 n) := fun o n => by
  rw [hb5.cell (p := ⟨w.heap.size, o, none⟩) bxl]
  exact BO.out o n
 have hb6 : Below w.heap.size w w4 := HB1.out.trans (hb5.mono HB1.out.size)
 have hne : w.heap.size ≠ dk := by omega
 have hk : Kept (fun j => j = dk) w (w4.setCell ⟨w.heap.size, 0, none⟩ (.slice a4 ds4.length c4)) := (Kept.of_below hb6 _).andThen (Kept.setCell (S := fun j => j = w.heap.size) _ _ _ rfl) (fun i hi hlt => by omega)
 have HFIN : Hid (CntOut dk vars ns (belowN vars ns h) w (.returned (.agg #[.slice a4 ds4.length c4])) (w4.setCell ⟨w.heap.size, 0, none⟩ (.slice a4 ds4.length c4))) := ⟨_, L, rfl, hnat.box hno _, (HD.out.new hb6).box hno hne _, hk⟩
 clear hdg hnm hvl hnat hno hk hb4 hb5 hb6 HOF HB3 HB1 HD BO HBE bc bf
 go_wp2
 refine bodyPost_ret (v := .agg #[.slice a4 ds4.length c4]) (by simp [results, Tryz.results73, go_sem, hcs]) rfl HFIN.out
theorem below_found (hl : ns.length <= 90000) (L : List (Int × NV)) (w : World) (hS : SpaceAt B w s b O vars room ns) (hD : DoneN w dk vars ns L) (p : Int × NV) (hp : p ∈ L) (hh : hasB ns p.1 = true) :
  Calls Tryz.prog 73 #[.pointer (some ⟨s, 0, none⟩), .int .i64 p.1, .map (some dk)] w (CntOut dk vars ns (belowN vars ns p.1) w) := by
 have hi := has_i64 hh (by omega)
 have ht := hD.keys p hp
 have hnat := hD.nums p hp
 have hb1 := below_new w (.cells #[.slice none 0 0] 30)
 have c0 := (hS.new hb1).c0
 have HG := spGet (hS.new hb1) p.1 hi hl
 rw [show decide (topOf ns p.1 ≠ 24) = true by simp [ht]] at HG
 unfold Nd.val at HG
 have HGT := Lib.hid HG
 have HL : Hid (∀ W, Below w.heap.size w W -> (Instr.lookup 85 (.map (some dk)) (.int .i64 p.1) true).run Tryz.prog W = .ok (.tuple #[.agg #[.slice p.2.a p.2.n p.2.c], .bool true]) W) := fun W hW => by
  obtain ⟨D, hDm, hR⟩ := (hD.new hW).hmap
  exact nlook_found hDm hR hp
 have hdl := hD.lt
 have bxl : w.heap.size < (w.alloc (.cells #[.slice none 0 0] 30)).heap.size := by simp
 have bc : (w.alloc (.cells #[.slice none 0 0] 30)).cell? ⟨w.heap.size, 0, none⟩ = some (.slice none 0 0) := by simp
 have bf : (w.alloc (.cells #[.slice none 0 0] 30)).frozen? ⟨w.heap.size, 0, none⟩ = false := by simp
 have BO := Lib.hid (box_new w)
 have HB1 := Lib.hid hb1
 have HD := Lib.hid hD
 have HN : Hid (NatAt w (.agg #[.slice p.2.a p.2.n p.2.c]) (belowN vars ns p.1)) := hnat
 clear HG hS hD hh ht hb1 hnat hp
 generalize p.2.a = xa at *
 generalize p.2.n = xn at *
 generalize p.2.c = xc at *
 generalize p.1 = h at *
 generalize getOf ns h = gn at *
 generalize belowN vars ns h = m at *
 obtain ⟨gv, gl, gh⟩ := gn
 simp only at HGT
 go_enter Tryz.func73, Tryz.ntmps73
 go_wp2_with fail
 refine HGT.out.mono ?_
 rintro e w2 ⟨rfl, hb2⟩
 generalize (w.alloc (.cells #[.slice none 0 0] 30)) = W1 at *
 have hb3 := hb2.alloc hb2.size (.cells #[.int .i64 gv, .int .i64 gl, .int .i64 gh] 102)
 have hb4 := HB1.out.trans (hb3.mono HB1.out.size)
 have hrun := HL.out _ hb4
 have hb5 := hb3.alloc hb3.size (.cells #[.slice xa xn xc] 30)
 have bc4 := (hb5.cell (p := ⟨w.heap.size, 0, none⟩) bxl).trans bc
 have bf4 := (hb5.frozen (p := ⟨w.heap.size, 0, none⟩) bxl).trans bf
 have hno : ∀ o n, ((w2.alloc (.cells #[.int .i64 gv, .int .i64 gl, .int .i64 gh] 102)).alloc (.cells #[.slice xa xn xc] 30)).cell? ⟨w.heap.size, o, none⟩ ≠ some (.int .u64 n) := fun o n => by
  rw [hb5.cell (p := ⟨w.heap.size, o, none⟩) bxl]
  exact BO.out o n
 have hb6 : Below w.heap.size w ((w2.alloc (.cells #[.int .i64 gv, .int .i64 gl, .int .i64 gh] 102)).alloc (.cells #[.slice xa xn xc] 30)) := HB1.out.trans (hb5.mono HB1.out.size)
 have hcs : (((w2.alloc (.cells #[.int .i64 gv, .int .i64 gl, .int .i64 gh] 102)).alloc (.cells #[.slice xa xn xc] 30)).setCell ⟨w.heap.size, 0, none⟩ (.slice xa xn xc)).cell? ⟨w.heap.size, 0, none⟩ = some (.slice xa xn xc) := World.cell?_setCell_same _ _ _ bc4
 have hne : w.heap.size ≠ dk := by omega
 have hk : Kept (fun j => j = dk) w (((w2.alloc (.cells #[.int .i64 gv, .int .i64 gl, .int .i64 gh] 102)).alloc (.cells #[.slice xa xn xc] 30)).setCell ⟨w.heap.size, 0, none⟩ (.slice xa xn xc)) := (Kept.of_below hb6 _).andThen (Kept.setCell (S := fun j => j = w.heap.size) _ _ _ rfl) (fun i hi hlt => by omega)
 have HFIN : Hid (CntOut dk vars ns m w (.returned (.agg #[.slice xa xn xc])) (((w2.alloc (.cells #[.int .i64 gv, .int .i64 gl, .int .i64 gh] 102)).alloc (.cells #[.slice xa xn xc] 30)).setCell ⟨w.heap.size, 0, none⟩ (.slice xa xn xc))) := ⟨_, L, rfl, (HN.out.new hb6).box hno _, (HD.out.new hb6).box hno hne _, hk⟩
 clear hb2 hb3 hb4 hb5 hb6 hno hk HGT HL HB1 HD HN BO c0 bc bf
 go_wp2
 refine bodyPost_ret (v := .agg #[.slice xa xn xc]) (by simp [results, Tryz.results73, go_sem, hcs]) rfl HFIN.out
end
end
end Go.Proofs.YtcjjekhecjmaeaaGreatDoor
