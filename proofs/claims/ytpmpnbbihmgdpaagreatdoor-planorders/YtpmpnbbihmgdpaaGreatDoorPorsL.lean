/- PlanOrders: the law's walk. -/
import Derived.Test.YtpmpnbbihmgdpaaGreatDoorRlPS
import Derived.Test.YtpmpnbbihmgdpaaGreatDoorCtLineF
import Derived.Test.YtpmpnbbihmgdpaaGreatDoorCtParse
import Derived.Test.YtpmpnbbihmgdpaaGreatDoorCtAsc
import Derived.Test.YtpmpnbbihmgdpaaGreatDoorErAt
import Derived.Test.YtpmpnbbihmgdpaaGreatDoorPlSmall
import Derived.Test.YtpmpnbbihmgdpaaGreatDoorPlRChange
import Derived.Test.YtpmpnbbihmgdpaaGreatDoorPlGoing
import Derived.Test.YtpmpnbbihmgdpaaGreatDoorRlLineB
set_option maxHeartbeats 0
set_option maxRecDepth 100000
namespace Go.Proofs.YtpmpnbbihmgdpaaGreatDoor
section
open Go.RowKit Go.Shelf Sv
theorem tailF_err {k : Nat} {nm : ByteArray} {ns : List Nat} {ot rest : ByteArray} {q : Int} {o : Option Nat} (h : tailF k nm ns ot rest = .error (q, o)) : q ≠ 0 := by
 unfold tailF at h
 split at h
 ·rename_i e hx; cases h; exact rngF_err hx
 ·cases h
theorem lineF_err {s : ByteArray} {q : Int} {o : Option Nat} (h : lineF s = .error (q, o)) : q ≠ 0 := by
 unfold lineF at h
 split at h
 ·cases h; decide
 ·split at h
  ·exact tailF_err h
  ·split at h
   ·rename_i hx; cases h; exact versF_err hx
   ·split at h
    ·split at h
     ·cases h
     ·cases h; decide
    ·exact tailF_err h
end
section
open Go.RowKit Go.Deep Go.Shelf Sv
theorem gathF_err : ∀ (ls : List Ln) (i : Nat) (its : List It) (k : Int) (j : Nat), gathF ls i its = .error (k, j) -> k ≠ 0 := by
 intro ls
 induction ls with
 | nil => intro i its k j h; cases h
 | cons x r ih =>
  intro i its k j h
  unfold gathF at h
  split at h
  ·rename_i hz; cases h; exact hz
  ·split at h
   ·split at h
    ·cases h; decide
    ·split at h
     ·cases h; decide
     ·exact ih _ _ _ _ h
   ·exact ih _ _ _ _ h
theorem newF_err {ls : List Ln} {q : Int} {o : Option Nat} (h : newF ls = .error (q, o)) : q ≠ 0 := by
 unfold newF at h
 split at h
 ·cases h; decide
 ·split at h
  ·rename_i e he
   obtain ⟨e1, e2⟩ := e
   cases h
   exact gathF_err _ _ _ _ _ he
  ·split at h
   ·cases h; decide
   ·cases h
def RcRes (w : World) (r : Except (Int × Option Nat) (List Ln × List It)) (e : Ending) (w' : World) : Prop :=
 ∃ (v : Value) (k p : Int), e = .returned (.tuple #[v, .agg #[.int .i64 k, .int .i64 p]]) /\ Below w.heap.size w w' /\ match r with
  | .ok (ls, _) => RLs w' v ls /\ k = 0 /\ p = -1
  | .error (q, o) => v = .slice none 0 0 /\ k = q /\ p = placeO o
theorem rcatp_long (s : ByteArray) (w : World) (h : 20000 < s.size) : Calls Tryz.prog 41 #[.string s] w (RcRes w (.error (4, none))) := by
 have h' : (20000 : Int) < (s.size : Int) := by omega
 have HBR := Lib.hid (refBare 4 (w.alloc (.cells #[.int .i64 0, .int .i64 0] 49)))
 have kf := Blk.new w 49 #[.int .i64 0, .int .i64 0]
 have hbf : Below w.heap.size w (w.alloc (.cells #[.int .i64 0, .int .i64 0] 49)) := (Below.refl _ w).alloc (Nat.le_refl _) _
 clear h
 go_enter Tryz.func41, Tryz.ntmps41
 go_wp2_with fail
 refine HBR.out.mono ?_
 rintro e w1 ⟨rfl, hb1⟩
 have kf1 := kf.below hb1 kf.lt
 have hB1 := hbf.trans (hb1.mono hbf.size)
 have q0 : w1.cell? ⟨w.heap.size, 0, none⟩ = some (.int .i64 0) := kf1.cell 0
 have q1 : w1.cell? ⟨w.heap.size, 1, none⟩ = some (.int .i64 0) := kf1.cell 1
 have q2 := kf1.frozen 0
 have q3 := kf1.frozen 1
 obtain ⟨⟨p0, p1⟩, p2, p3, p4⟩ := put2 kf1 hB1 (Nat.le_refl _) 4 (-1)
 have P2 := Lib.hid p2
 have P3 := Lib.hid p3
 have P4 := Lib.hid p4
 clear p2 p3 p4
 clear kf kf1 hbf hb1 HBR hB1
 go_wp2
 exact bodyPost_ret (v := .tuple #[.slice none 0 0, .agg #[.int .i64 4, .int .i64 (-1)]]) (by simp [results, Tryz.results41, go_sem, P2.out, P3.out]) rfl ⟨_, _, _, rfl, P4.out, rfl, rfl, rfl⟩
theorem piece_cell {L : List (Nat × ByteArray)} {k : Nat} (hk : k < L.length) : (((L.map (·.2)).map Value.string).toArray)[k]? = some (.string (px L k).2) := by
 rw [px_at L k hk]
 simp [hk]
def PInv (L : List (Nat × ByteArray)) (W0 : World) (lV sV aV kV : Value) (wz : World) : Prop := ∃ (k a : Nat) (acc : List (Nat × Ln)) (vs : List Value), k <= L.length /\ kV = .int .i64 (k : Int) /\ aV = .int .i64 (a : Int) /\ a <= 30000 /\ (k < L.length -> a = (px L k).1) /\ acc.length <= k /\ plF ((L.take k).filter (fun x => decide (x.2.size ≠ 0))) [] = .ok acc /\ RPS W0 wz lV sV (acc.map Prod.snd) vs (acc.map Prod.fst)
theorem rcatp_any (s : ByteArray) (w : World) (hw : Lb w) (hF : FineR w) (ad : Addr) (cap : Nat) (hK : KindsAt w ad cap) : Calls Tryz.prog 41 #[.string s] w (RcRes w (parseF s)) := by
 by_cases hs : 20000 < s.size
 ·have e : parseF s = .error (4, none) := by unfold parseF; rw [if_pos hs]
  rw [e]; exact rcatp_long s w hs
 obtain ⟨R, hR⟩ : ∃ R, parseF s = R := ⟨_, rfl⟩
 rw [hR]
 have hR2 := hR
 unfold parseF at hR2
 rw [if_neg hs, lns_cut s s.size 0 (by omega) (Nat.zero_le _)] at hR2
 have hcu := cuts_of s ⟨#[10]⟩
 have HSP := Lib.hid (split_gen s ⟨#[10]⟩ (by decide) (w.alloc (.cells #[.int .i64 0, .int .i64 0] 49)) (by omega) (hw.below ((Below.refl _ w).alloc (Nat.le_refl _) _)))
 generalize cutB s ⟨#[10]⟩ s.size 0 = L at *
 have HCU := Lib.hid hcu
 have HR := Lib.hid hR2
 have HW := Lib.hid hw
 have HFN := Lib.hid hF
 have HKD := Lib.hid hK
 have hs' : ¬ (20000 : Int) < (s.size : Int) := by omega
 have hLl := hcu.len
 have kf := Blk.new w 49 #[.int .i64 0, .int .i64 0]
 have hbf : Below w.heap.size w (w.alloc (.cells #[.int .i64 0, .int .i64 0] 49)) := (Below.refl _ w).alloc (Nat.le_refl _) _
 clear hR hR2 hcu hw hF hK
 obtain ⟨i0, hin, hz0, hz1, hz2⟩ := info_parts infoRLn
 obtain ⟨i1, hin1, hy0, hy1, hy2⟩ := info_parts infoInt
 go_enter Tryz.func41, Tryz.ntmps41
 go_wp2_with fail
 refine HSP.out.mono ?_
 rintro e W0 ⟨rfl, hpc, hb0⟩
 have HKF : Hid (Blk W0 w.heap.size 49 #[.int .i64 0, .int .i64 0]) := kf.below hb0 kf.lt
 have HPC := Lib.hid hpc
 have HB0 : Hid (Below w.heap.size w W0) := hbf.trans (hb0.mono hbf.size)
 clear kf hbf hpc hb0 HSP
 rw [World.size_alloc] at HPC
 simp only [World.size_alloc]
 go_wp2_with fail
 go_loopw [4, 5, 6, 19] (fun lV sV aV kV wz => PInv L W0 lV sV aV kV wz) (fun _ _ _ kV _ => L.length - (intOf kV).toNat)
 case atStart => exact ⟨0, 0, [], [], Nat.zero_le _, rfl, rfl, by omega, fun _ => HCU.out.first.symm, Nat.le_refl _, rfl, RPS.start _⟩
 case round =>
  obtain ⟨k, a, acc, vs, hk, rfl, rfl, ha, hak, hacl, hpl, hps⟩ := hrel
  obtain ⟨ls, hls⟩ : ∃ ls, acc.map Prod.snd = ls := ⟨_, rfl⟩
  obtain ⟨ss, hss⟩ : ∃ ss, acc.map Prod.fst = ss := ⟨_, rfl⟩
  have hl2 : ls.length <= k := by rw [<- hls, List.length_map]; exact hacl
  have hl1 : ss.length <= k := by rw [<- hss, List.length_map]; exact hacl
  rw [hls, hss] at hps
  have HLS := Lib.hid hls
  have HSS := Lib.hid hss
  clear hls hss
  obtain ⟨lva, lvc, rfl, -⟩ := (rowAt_own hps.lrow).form
  obtain ⟨sva, svc, rfl, -⟩ := (rowAt_own hps.srow).form
  by_cases hlt : k < L.length
  ·have hroom := HCU.out.room k hlt
   have hnext := HCU.out.next k
   have ea := hak hlt
   have htk := pl_take hlt hpl
   have cp : wr.cell? ⟨w.heap.size + 1, k, none⟩ = some (.string (px L k).2) := ((HPC.out.below hps.B HPC.out.lt).cell k).trans (piece_cell hlt)
   have hm : (⟨#[10]⟩ : ByteArray).size = 1 := rfl
   rw [hm] at hnext
   have HTK := Lib.hid htk
   have HPS := Lib.hid hps
   clear htk hpl hps hak hm
   obtain ⟨pl, hpl⟩ : ∃ pl, (px L k).1 = pl := ⟨_, rfl⟩
   obtain ⟨pc, hpc⟩ : ∃ pc, (px L k).2 = pc := ⟨_, rfl⟩
   rw [hpl, hpc] at hroom hnext HTK
   rw [hpl] at ea
   rw [hpc] at cp
   clear hpl hpc
   subst ea
   have hnx := Lib.hid hnext
   clear hnext
   by_cases h0 : pc.size = 0
   ·obtain rfl := bytes_empty h0
    have HT2 : Hid (plF ((L.take (k + 1)).filter (fun x => decide (x.2.size ≠ 0))) [] = .ok acc) := by have h := HTK.out; rw [if_pos (show (⟨#[]⟩ : ByteArray).size = 0 from rfl)] at h; exact h
    clear HTK h0
    clear hin hz0 hz1 hz2 hin1 hy0 hy1 hy2
    go_wp2
    go_roundw
    case rel => exact ⟨k + 1, a + 1, acc, vs, by omega, by go_num, by go_num, by omega, fun h => (hnx.out h).symm, by omega, HT2.out, by rw [HLS.out, HSS.out]; exact HPS.out⟩
    case measure => simp [intOf]; omega
   ·have he1 : pc.toList.isEmpty = false := bytes_not_empty (by omega)
    have he2 : (pc.toList == []) = false := by rw [beq_eq_false_iff_ne]; intro h; rw [h] at he1; cases he1
    have hBw := HB0.out.trans (HPS.out.B.mono HB0.out.size)
    have HLP := Lib.hid (rline_any pc wr (by omega) (HW.out.below hBw) (HFN.out.below hBw) ad cap (HKD.out.below hBw))
    rw [if_neg h0] at HTK
    clear hBw
    go_wp2_with fail
    refine HLP.out.mono ?_
    rintro e w1 ⟨x, ra, rc, q, p, rfl, hns, hrg, hnew, hb1, hok⟩
    have hps1 := HPS.out.step hb1
    have hA : Below w1.heap.size w1 ((w1.alloc (.cells #[.int .i64 x.kind, .string x.name, .int .i64 x.a, .int .i64 x.b, .int .i64 x.c, .string x.other, .slice ra (tp x.rng).length rc] 54)).alloc (.cells #[.int .i64 q, .int .i64 p] 49)) := ((Below.refl _ w1).alloc (Nat.le_refl _) _).alloc (by simp) _
    have kl := (Blk.new w1 54 #[.int .i64 x.kind, .string x.name, .int .i64 x.a, .int .i64 x.b, .int .i64 x.c, .string x.other, .slice ra (tp x.rng).length rc]).alloc (.cells #[.int .i64 q, .int .i64 p] 49)
    have kq := Blk.new (w1.alloc (.cells #[.int .i64 x.kind, .string x.name, .int .i64 x.a, .int .i64 x.b, .int .i64 x.c, .string x.other, .slice ra (tp x.rng).length rc] 54)) 49 #[.int .i64 q, .int .i64 p]
    rw [World.size_alloc] at kq
    have HP2 := Lib.hid (hps1.step hA)
    have HNS := Lib.hid (hns.below hA (Nat.le_refl _))
    have HRG := Lib.hid hrg
    have HNW := Lib.hid hnew
    have HOK := Lib.hid hok
    have HKL := Lib.hid kl
    have HKQ := Lib.hid kq
    have hwr := hb1.size
    clear hps1 hA kl kq hns hrg hnew hok hb1 HLP cp
    go_upto_region 11 with fail
    generalize (w1.alloc (.cells #[.int .i64 x.kind, .string x.name, .int .i64 x.a, .int .i64 x.b, .int .i64 x.c, .string x.other, .slice ra (tp x.rng).length rc] 54)).alloc (.cells #[.int .i64 q, .int .i64 p] 49) = W2 at *
    have k0 : W2.cell? ⟨w1.heap.size + 1, 0, none⟩ = some (.int .i64 q) := HKQ.out.cell 0
    have k1 : W2.cell? ⟨w1.heap.size + 1, 1, none⟩ = some (.int .i64 p) := HKQ.out.cell 1
    cases hlf : lineF pc with
    | error e =>
     obtain ⟨q', o⟩ := e
     have hq0 := lineF_err hlf
     have h1 := HOK.out
     have h2 := HTK.out
     rw [hlf] at h1 h2
     obtain ⟨rfl, rfl, rfl⟩ := h1
     have HRE : Hid (R = .error (q, some a)) := by show _ = _; rw [<- HR.out, pl_err h2]
     have hq1 : (q == 0) = false := by rw [beq_eq_false_iff_ne]; exact hq0
     have kf2 : Blk W2 w.heap.size 49 #[.int .i64 0, .int .i64 0] := HKF.out.below HP2.out.B HKF.out.lt
     have hB2 : Below w.heap.size w W2 := HB0.out.trans (HP2.out.B.mono HB0.out.size)
     have q0 : W2.cell? ⟨w.heap.size, 0, none⟩ = some (.int .i64 0) := kf2.cell 0
     have q1 : W2.cell? ⟨w.heap.size, 1, none⟩ = some (.int .i64 0) := kf2.cell 1
     have q2 := kf2.frozen 0
     have q3 := kf2.frozen 1
     obtain ⟨⟨p0, p1⟩, p2, p3, p4⟩ := put2 kf2 hB2 (Nat.le_refl _) q (a : Int)
     have P2 := Lib.hid p2
     have P3 := Lib.hid p3
     have P4 := Lib.hid p4
     clear p2 p3 p4
     clear hlf h2 hq0 HTK HR HOK HPS
     go_wp2_with fail
     go_region
     go_wp2
     exact bodyPost_ret (v := .tuple #[.slice none 0 0, .agg #[.int .i64 q, .int .i64 (a : Int)]]) (by simp [results, Tryz.results41, go_sem, P2.out, P3.out]) rfl (by rw [HRE.out]; exact ⟨_, _, _, rfl, P4.out.drew, rfl, rfl, rfl⟩)
    | ok y =>
     have h1 := HOK.out
     have h2 := HTK.out
     rw [hlf] at h1 h2
     obtain ⟨rfl, rfl, rfl⟩ := h1
     have HT2 : Hid (plF ((L.take (k + 1)).filter (fun x => decide (x.2.size ≠ 0))) [] = .ok (acc ++ [(a, x)])) := h2
     have d0 : W2.cell? ⟨w1.heap.size, 0, none⟩ = some (.int .i64 x.kind) := HKL.out.cell 0
     have d1 : W2.cell? ⟨w1.heap.size, 1, none⟩ = some (.string x.name) := HKL.out.cell 1
     have d2 : W2.cell? ⟨w1.heap.size, 2, none⟩ = some (.int .i64 x.a) := HKL.out.cell 2
     have d3 : W2.cell? ⟨w1.heap.size, 3, none⟩ = some (.int .i64 x.b) := HKL.out.cell 3
     have d4 : W2.cell? ⟨w1.heap.size, 4, none⟩ = some (.int .i64 x.c) := HKL.out.cell 4
     have d5 : W2.cell? ⟨w1.heap.size, 5, none⟩ = some (.string x.other) := HKL.out.cell 5
     have d6 : W2.cell? ⟨w1.heap.size, 6, none⟩ = some (.slice ra (tp x.rng).length rc) := HKL.out.cell 6
     have HROW := Lib.hid HP2.out.lrow
     have hw2 := HP2.out.B.size
     have hwr0 := HPS.out.B.size
     have HLT := Lib.hid HPS.out.lrow
     have HST := Lib.hid HPS.out.srow
     clear hlf h2 HTK HOK HPS k1 HKQ HKL
     have hb3 : Below W2.heap.size W2 (W2.alloc (.cells #[.int .i64 x.kind, .string x.name, .int .i64 x.a, .int .i64 x.b, .int .i64 x.c, .string x.other, .slice ra (tp x.rng).length rc] 54)) := (Below.refl _ _).alloc (Nat.le_refl _) _
     have HP3 := Lib.hid (HP2.out.step hb3)
     have HNS3 := Lib.hid (HNS.out.below hb3 (Nat.le_refl _))
     clear hb3
     go_wp2_with (at_builtin; refine wpList_append_own_at _ rfl _ _ 25 rfl W0.heap.size 54 i0 (.agg #[.int .i64 0, .string ⟨#[]⟩, .int .i64 0, .int .i64 0, .int .i64 0, .string ⟨#[]⟩, .slice none 0 0]) 7 88 Tryz.underlying25 hin hz0 hz1 hz2 rfl (by decide) _ _ _ rfl (HROW.out.alloc _) ⟨W2.heap.size, 0, none⟩ 1 1 [.int .i64 x.kind, .string x.name, .int .i64 x.a, .int .i64 x.b, .int .i64 x.c, .string x.other, .slice ra (tp x.rng).length rc] rfl rfl ?c1 ?c2 ?c3 ?c4 ?c5 ?_)
     case c1 => exact cell_seven_new _ _ _ _ _ _ _ _ _
     case c2 => intro u hu; simp at hu; rcases hu with rfl | rfl | rfl | rfl | rfl | rfl | rfl <;> rfl
     case c3 => unfold maxLen; omega
     case c4 => omega
     case c5 => simp; omega
     intro v4 w4 hown4 hgrow4 _ hloc4
     have hn4 : 0 < x.rng.length -> ∀ g, (Value.slice ra (tp x.rng).length rc).ownBlock = some g -> W0.heap.size <= g /\ some g ≠ (Value.slice lva ls.length lvc).ownBlock /\ some g ≠ (Value.slice sva ss.length svc).ownBlock := fun _ g hg => ⟨Nat.le_trans hwr0 (HNW.out g hg), fun e => by have h1 := HNW.out g hg; have h2 := (HLT.out.lt g e.symm).2; omega, fun e => by have h1 := HNW.out g hg; have h2 := (HST.out.lt g e.symm).2; omega⟩
     have hp4 := HP3.out.appL HNS3.out HRG.out hn4 hown4 hgrow4 (by rw [World.size_alloc]; exact hloc4)
     obtain ⟨v4a, v4c, rfl, -⟩ := (rowAt_own hp4.lrow).form
     have HP4 := Lib.hid hp4
     have HROW4 := Lib.hid hp4.srow
     have hw4 := hp4.B.size
     have hb5 : Below w4.heap.size w4 (w4.alloc (.cells #[.int .i64 (a : Int)] 3)) := (Below.refl _ _).alloc (Nat.le_refl _) _
     have HP5 := Lib.hid (hp4.step hb5)
     clear hown4 hgrow4 hloc4 hn4 hp4 hb5 HROW HP3 HP2 HNS HNS3 HRG HNW HLT HST d0 d1 d2 d3 d4 d5 d6
     go_wp2_with (at_builtin; refine wpList_append_own_at _ rfl _ _ 31 rfl W0.heap.size 3 i1 (.int .i64 0) 1 8 Tryz.underlying31 hin1 hy0 hy1 hy2 rfl (by decide) _ _ _ rfl (HROW4.out.alloc _) ⟨w4.heap.size, 0, none⟩ 1 1 [.int .i64 (a : Int)] rfl rfl ?a1 ?a2 ?a3 ?a4 ?a5 ?_)
     case a1 => exact cell_lit _ _ _
     case a2 => exact one_lit _
     case a3 => unfold maxLen; omega
     case a4 => omega
     case a5 => simp; omega
     intro v6 w6 hown6 hgrow6 _ hloc6
     have HP6 := Lib.hid (HP5.out.appS (k := a) hown6 hgrow6 (by rw [World.size_alloc]; exact hloc6))
     clear hown6 hgrow6 hloc6 HP5 HP4 HROW4
     go_wp2
     go_roundw
     case rel => exact ⟨k + 1, a + pc.size + 1, acc ++ [(a, x)], vs ++ [.slice ra (tp x.rng).length rc], by omega, by go_num, by go_num, by omega, fun h => (hnx.out h).symm, by simp; omega, HT2.out, by have h := HP6.out; rw [show (ls ++ [x]).length = ls.length + 1 by simp] at h; rw [List.map_append, List.map_append, HLS.out, HSS.out]; exact h⟩
     case measure => simp [intOf]; omega
  ·obtain rfl : k = L.length := by omega
   have hfull : plF (L.filter (fun x => decide (x.2.size ≠ 0))) [] = .ok acc := by have h := hpl; rw [List.take_length] at h; exact h
   have hB0 := HB0.out.trans (hps.B.mono HB0.out.size)
   have HCC := Lib.hid (rcatc_any ls (.slice lva ls.length lvc) wr hps.rls (by omega) (HFN.out.below hB0))
   have HFU := Lib.hid hfull
   have HP1 := Lib.hid hps
   clear hpl hfull hB0 hps HCU HPC hak hlt hacl hin hz0 hz1 hz2 hin1 hy0 hy1 hy2
   obtain ⟨NK, hNK⟩ : ∃ NK, newK (newF ls) = NK := ⟨_, rfl⟩
   rw [hNK] at HCC
   go_wp2_with fail
   refine HCC.out.mono ?_
   rintro e w1 ⟨rfl, hb1⟩
   have hA : Below w1.heap.size w1 (w1.alloc (.cells #[.int .i64 NK.1, .int .i64 NK.2] 49)) := (Below.refl _ _).alloc (Nat.le_refl _) _
   have kq := Blk.new w1 49 #[.int .i64 NK.1, .int .i64 NK.2]
   have HP2 := Lib.hid ((HP1.out.step hb1).step hA)
   have HNK := Lib.hid hNK
   have hbne : w.heap.size ≠ w1.heap.size := by have h1 := HKF.out.lt; have h2 := HP1.out.B.size; have h3 := hb1.size; omega
   have hble : w.heap.size <= w1.heap.size := by have h1 := HKF.out.lt; have h2 := HP1.out.B.size; have h3 := hb1.size; omega
   clear hA hb1 HCC HP1 hNK
   go_upto_region 17 with fail
   generalize w1.alloc (.cells #[.int .i64 NK.1, .int .i64 NK.2] 49) = W2 at *
   generalize w1.heap.size = bf at *
   have kf2 : Blk W2 w.heap.size 49 #[.int .i64 0, .int .i64 0] := HKF.out.below HP2.out.B HKF.out.lt
   have hB2 : Below w.heap.size w W2 := HB0.out.trans (HP2.out.B.mono HB0.out.size)
   have k0 : W2.cell? ⟨bf, 0, none⟩ = some (.int .i64 NK.1) := kq.cell 0
   have k1 : W2.cell? ⟨bf, 1, none⟩ = some (.int .i64 NK.2) := kq.cell 1
   cases hn : newF ls with
   | ok its =>
    have h1 := HNK.out
    have h2 := HR.out
    rw [HFU.out] at h2
    simp only [HLS.out, hn] at h2
    rw [hn] at h1
    obtain rfl : (0, -1) = NK := h1
    have HRE : Hid (R = .ok (ls, its)) := h2.symm
    have hf1 := HFN.out.below hB2
    have g0 := hf1.c0
    have g1 := hf1.c1
    have q0 : W2.cell? ⟨w.heap.size, 0, none⟩ = some (.int .i64 0) := kf2.cell 0
    have q1 : W2.cell? ⟨w.heap.size, 1, none⟩ = some (.int .i64 0) := kf2.cell 1
    have q2 := kf2.frozen 0
    have q3 := kf2.frozen 1
    obtain ⟨⟨p0, p1⟩, p2, p3, p4⟩ := put2 kf2 hB2 (Nat.le_refl _) 0 (-1)
    have P2 := Lib.hid p2
    have P3 := Lib.hid p3
    have P4 := Lib.hid p4
    clear p2 p3 p4
    have HRL : Hid (RLs ((W2.setCell ⟨w.heap.size, 0, none⟩ (.int .i64 0)).setCell ⟨w.heap.size, 1, none⟩ (.int .i64 (-1))) (.slice lva ls.length lvc) ls) := HP2.out.rlsSet HKF.out.lt
    clear h2 hn hf1 kq kf2 HKF HNK HP2 hB2
    go_wp2_with fail
    go_region
    go_wp2
    exact bodyPost_ret (v := .tuple #[.slice lva ls.length lvc, .agg #[.int .i64 0, .int .i64 (-1)]]) (by simp [results, Tryz.results41, go_sem, P2.out, P3.out]) rfl (by rw [HRE.out]; exact ⟨_, _, _, rfl, P4.out.drew, HRL.out.below (Below.refl _ _).drew (Nat.le_refl _), rfl, rfl⟩)
   | error e =>
    obtain ⟨q, o⟩ := e
    have hq0 := newF_err hn
    cases o with
    | none =>
     have h1 := HNK.out
     have h2 := HR.out
     rw [HFU.out] at h2
     simp only [HLS.out, hn] at h2
     rw [hn] at h1
     obtain rfl : (q, -1) = NK := h1
     have HRE : Hid (R = .error (q, none)) := h2.symm
     have hq1 : (q == 0) = false := by rw [beq_eq_false_iff_ne]; exact hq0
     simp only at k0 k1
     have q0 : W2.cell? ⟨w.heap.size, 0, none⟩ = some (.int .i64 0) := kf2.cell 0
     have q1 : W2.cell? ⟨w.heap.size, 1, none⟩ = some (.int .i64 0) := kf2.cell 1
     have q2 := kf2.frozen 0
     have q3 := kf2.frozen 1
     obtain ⟨⟨p0, p1⟩, p2, p3, p4⟩ := put2 kf2 hB2 (Nat.le_refl _) q (-1)
     have P2 := Lib.hid p2
     have P3 := Lib.hid p3
     have P4 := Lib.hid p4
     clear p2 p3 p4
     clear h2 hn kq kf2 HKF HNK HP2 hB2 hq0
     go_wp2_with fail
     go_region
     go_wp2
     exact bodyPost_ret (v := .tuple #[.slice none 0 0, .agg #[.int .i64 q, .int .i64 (-1)]]) (by simp [results, Tryz.results41, go_sem, P2.out, P3.out]) rfl (by rw [HRE.out]; exact ⟨_, _, _, rfl, P4.out.drew, rfl, rfl, rfl⟩)
    | some i =>
     have hil := newF_lt hn
     have h1 := HNK.out
     have h2 := HR.out
     rw [HFU.out] at h2
     simp only [HLS.out, HSS.out, hn] at h2
     rw [hn] at h1
     obtain rfl : (q, (i : Int)) = NK := h1
     have hq1 : (q == 0) = false := by rw [beq_eq_false_iff_ne]; exact hq0
     have hsl : ss.length = ls.length := by rw [<- HLS.out, <- HSS.out, List.length_map, List.length_map]
     have his : i < ss.length := by omega
     obtain ⟨g, cap', e1, hg, hc⟩ := (rowAt_own HP2.out.srow).cells (by omega)
     simp at e1
     obtain ⟨rfl, rfl⟩ := e1
     obtain ⟨Pi, hPi⟩ : ∃ Pi, ss.getD i 0 = Pi := ⟨_, rfl⟩
     have ci : W2.cell? ⟨g, i, none⟩ = some (.int .i64 (Pi : Int)) := hc i _ (by rw [<- hPi]; simp [icells, his])
     rw [hPi] at h2
     have HRE : Hid (R = .error (q, some Pi)) := h2.symm
     simp only at k0 k1
     have fz1 := kq.frozen 1
     have kq3 : Blk (W2.setCell ⟨bf, 1, none⟩ (.int .i64 (Pi : Int))) bf 49 #[.int .i64 q, .int .i64 (Pi : Int)] := kq.set (i := 1)
     have kf3 : Blk (W2.setCell ⟨bf, 1, none⟩ (.int .i64 (Pi : Int))) w.heap.size 49 #[.int .i64 0, .int .i64 0] := kf2.other hbne
     have hB3 : Below w.heap.size w (W2.setCell ⟨bf, 1, none⟩ (.int .i64 (Pi : Int))) := hB2.setCell hble _
     have HQ3 := Lib.hid kq3
     have HF3 := Lib.hid kf3
     have HB3 := Lib.hid hB3
     clear h2 hn kq kf2 HKF HNK HP2 hB2 hq0 hPi hc kq3 kf3 hB3 hsl
     go_upto_region 20 with fail
     generalize W2.setCell ⟨bf, 1, none⟩ (.int .i64 (Pi : Int)) = W3 at *
     clear k0 k1 ci fz1
     have k0 : W3.cell? ⟨bf, 0, none⟩ = some (.int .i64 q) := HQ3.out.cell 0
     have k1 : W3.cell? ⟨bf, 1, none⟩ = some (.int .i64 (Pi : Int)) := HQ3.out.cell 1
     have q0 : W3.cell? ⟨w.heap.size, 0, none⟩ = some (.int .i64 0) := HF3.out.cell 0
     have q1 : W3.cell? ⟨w.heap.size, 1, none⟩ = some (.int .i64 0) := HF3.out.cell 1
     have q2 := HF3.out.frozen 0
     have q3 := HF3.out.frozen 1
     obtain ⟨⟨p0, p1⟩, p2, p3, p4⟩ := put2 HF3.out HB3.out (Nat.le_refl _) q (Pi : Int)
     have P2 := Lib.hid p2
     have P3 := Lib.hid p3
     have P4 := Lib.hid p4
     clear p2 p3 p4
     go_region
     go_wp2
     exact bodyPost_ret (v := .tuple #[.slice none 0 0, .agg #[.int .i64 q, .int .i64 (Pi : Int)]]) (by simp [results, Tryz.results41, go_sem, P2.out, P3.out]) rfl (by rw [HRE.out]; exact ⟨_, _, _, rfl, P4.out.drew, rfl, rfl, rfl⟩)
end
section
open Go.RowKit Go.Deep Sv
noncomputable def bothF (s : ByteArray) : Option (List Ln × List It) := if 1500 < s.size then none else match parseF s with
 | .error _ => none
 | .ok r => some r
theorem bothF_new {s : ByteArray} {ls : List Ln} {its : List It} (h : bothF s = some (ls, its)) : newF ls = .ok its := by
 unfold bothF at h
 split at h
 ·cases h
 ·split at h
  ·cases h
  ·rename_i r hr
   cases h
   exact parseF_ok hr
def BothRes (w : World) (r : Option (List Ln × List It)) (e : Ending) (w' : World) : Prop :=
 match r with
 | none => e = .returned (.tuple #[.pointer none, .slice none 0 0, .bool false]) /\ Below w.heap.size w w'
 | some (ls, its) => ∃ bc v, e = .returned (.tuple #[.pointer (some ⟨bc, 0, none⟩), v, .bool true]) /\ CatAt w' bc ls its /\ RLs w' v ls /\ Below w.heap.size w w'
theorem plF_errB : ∀ (l : List (Nat × ByteArray)) (acc : List (Nat × Ln)) (q : Int) (i : Nat), plF l acc = .error (q, i) -> q ≠ 0 := by
 intro l
 induction l with
 | nil => intro acc q i h; cases h
 | cons x r ih =>
  intro acc q i h
  unfold plF at h
  split at h
  ·rename_i e he
   obtain ⟨e1, e2⟩ := e
   cases h
   exact lineF_err he
  ·exact ih _ _ _ h
theorem parseF_errB {s : ByteArray} {q : Int} {o : Option Nat} (h : parseF s = .error (q, o)) : q ≠ 0 := by
 unfold parseF at h
 split at h
 ·cases h; decide
 ·split at h
  ·rename_i e he
   obtain ⟨e1, e2⟩ := e
   cases h
   exact plF_errB _ _ _ _ he
  ·split at h
   ·rename_i he; cases h; exact newF_err he
   ·rename_i he; cases h; exact newF_err he
   ·cases h
theorem both_c (s : ByteArray) (w : World) (hw : Lw w) (hF : FineR w) (ad : Addr) (cap : Nat) (hK : KindsAt w ad cap) : Calls Tryz.prog 11 #[.string s] w (BothRes w (bothF s)) := by
 by_cases hs : 1500 < s.size
 ·have hf : bothF s = none := by unfold bothF; rw [if_pos hs]
  have a1 : (1500 : Int) < (s.size : Int) := by omega
  rw [hf]
  clear hs hf hw hF hK
  go_enter Tryz.func11, Tryz.ntmps11
  go_wp2
  refine bodyPost_ret (v := .tuple #[.pointer none, .slice none 0 0, .bool false]) (by simp [results, Tryz.f11, go_sem]) rfl ?_
  exact ⟨rfl, Below.refl _ _⟩
 ·have a1 : ¬ (1500 : Int) < (s.size : Int) := by omega
  have HQ0 := rcatp_any s w hw.lb hF ad cap hK
  have HP0 : ∀ W, Below w.heap.size w W -> Calls Tryz.prog 42 #[.string s] W (ParRes W (parseF s)) := fun W hb => parse_any_c s W (hw.below hb)
  cases hx : parseF s with
  | error e =>
   obtain ⟨q, o⟩ := e
   have hf : bothF s = none := by unfold bothF; rw [if_neg hs, hx]
   have hq := parseF_errB hx
   have hq1 : (q == 0) = false := by rw [beq_eq_false_iff_ne]; exact hq
   rw [hx] at HQ0
   rw [hf]
   have HQ := Lib.hid HQ0
   clear HQ0 HP0 hw hF hK hx hf hs hq
   generalize hPO : placeO o = PO at *
   have HPO := Lib.hid hPO
   clear hPO
   go_enter Tryz.func11, Tryz.ntmps11
   go_wp2_with fail
   refine HQ.out.mono ?_
   rintro e w1 ⟨v, k, p, rfl, hb1, hv, hk, hp⟩
   rw [hv, hk, hp, HPO.out]
   clear hv hk hp
   have hA : Below w1.heap.size w1 (w1.alloc (.cells #[.int .i64 q, .int .i64 PO] 49)) := (Below.refl _ _).alloc (Nat.le_refl _) _
   have kf := Blk.new w1 49 #[.int .i64 q, .int .i64 PO]
   have HB1 : Hid (Below w.heap.size w (w1.alloc (.cells #[.int .i64 q, .int .i64 PO] 49))) := hb1.trans (hA.mono hb1.size)
   clear hA hb1 HQ
   go_upto_region 4 with fail
   generalize w1.alloc (.cells #[.int .i64 q, .int .i64 PO] 49) = W1 at *
   generalize w1.heap.size = bf at *
   have c0 : W1.cell? ⟨bf, 0, none⟩ = some (.int .i64 q) := kf.cell 0
   clear kf
   go_wp2
   refine bodyPost_ret (v := .tuple #[.pointer none, .slice none 0 0, .bool false]) (by simp [results, Tryz.f11, go_sem]) rfl ?_
   exact ⟨rfl, HB1.out⟩
  | ok r =>
   obtain ⟨ls, its⟩ := r
   have hf : bothF s = some (ls, its) := by unfold bothF; rw [if_neg hs, hx]
   rw [hx] at HQ0 HP0
   rw [hf]
   have HQ := Lib.hid HQ0
   have HP := Lib.hid HP0
   clear HQ0 HP0 hw hF hK hx hf hs
   go_enter Tryz.func11, Tryz.ntmps11
   go_wp2_with fail
   refine HQ.out.mono ?_
   rintro e w1 ⟨v, k, p, rfl, hb1, hv, hk, hp⟩
   rw [hk, hp]
   clear hk hp
   have hA : Below w1.heap.size w1 (w1.alloc (.cells #[.int .i64 0, .int .i64 (-1)] 49)) := (Below.refl _ _).alloc (Nat.le_refl _) _
   have kf := Blk.new w1 49 #[.int .i64 0, .int .i64 (-1)]
   have HB1 : Hid (Below w.heap.size w (w1.alloc (.cells #[.int .i64 0, .int .i64 (-1)] 49))) := hb1.trans (hA.mono hb1.size)
   have HV1 := Lib.hid (hv.below hA (Nat.le_refl _))
   obtain ⟨va, vc, rfl⟩ : ∃ va vc, v = .slice va ls.length vc := by obtain ⟨vs, _, h2⟩ := hv; obtain ⟨a, c, e, _⟩ := h2.form; exact ⟨a, c, e⟩
   clear hA hb1 HQ hv
   go_upto_region 4 with fail
   generalize w1.alloc (.cells #[.int .i64 0, .int .i64 (-1)] 49) = W1 at *
   generalize w1.heap.size = bf at *
   have c0 : W1.cell? ⟨bf, 0, none⟩ = some (.int .i64 0) := kf.cell 0
   clear kf
   go_wp2_with fail
   refine (HP.out _ HB1.out).mono ?_
   rintro e w2 ⟨bc, vs, rfl, hcv, -, hb2⟩
   have HB2 : Hid (Below w.heap.size w w2) := HB1.out.trans (hb2.mono HB1.out.size)
   have HV2 := Lib.hid (HV1.out.below hb2 (Nat.le_refl _))
   have HC2 := Lib.hid hcv.cat
   clear hcv hb2 HP HB1 HV1 c0
   go_wp2
   refine bodyPost_ret (v := .tuple #[.pointer (some ⟨bc, 0, none⟩), .slice va ls.length vc, .bool true]) (by simp [results, Tryz.f11, go_sem]) rfl ?_
   exact ⟨bc, _, rfl, HC2.out, HV2.out, HB2.out⟩
end
section
open Go.RowKit Go.Deep
theorem bare_any (m k : Int) (v : Value) (w : World) (hg : Glob w) (hv : ErrIs w v m (-1)) :
  Calls Tryz.prog 15 #[v, .int .i64 k] w fun e w' => e = .returned (.bool (m == k)) /\ Below w.heap.size w w' := by
 generalize hz : (m == k) = z
 have HG := Lib.hid hg
 have HV := Lib.hid hv
 clear hg hv
 go_enter Tryz.func15, Tryz.ntmps15
 go_wp2_with fail
 refine (refBare k _).mono ?_
 rintro e w1 ⟨rfl, hb1⟩
 have HA := at_any m k (-1) (-1) v w1 (HG.out.below hb1) (HV.out.below hb1)
 rw [beq_self_eq_true, Bool.and_true, hz] at HA
 clear hz
 go_wp2_with fail
 refine HA.mono ?_
 rintro e w2 ⟨rfl, hb2⟩
 go_wp2
 go_ret
 exact ⟨rfl, hb1.trans (hb2.mono hb1.size)⟩
end
section
open Go.RowKit Go.Deep
theorem same_ints (xs : List Int) (a1 a2 : Option Addr) (c1 c2 : Nat) (w : World) (h1 : IntsIn w a1 xs) (h2 : IntsIn w a2 xs) (hm : xs.length <= 9223372036854775807) :
  Calls Tryz.prog 16 #[.slice a1 xs.length c1, .slice a2 xs.length c2] w fun e w' => e = .returned (.bool true) /\ Below w.heap.size w w' := by
 have H1 := Lib.hid h1
 have H2 := Lib.hid h2
 clear h1 h2
 have enn : ((xs.length : Int) != (xs.length : Int)) = false := by simp
 go_enter Tryz.func16, Tryz.ntmps16
 go_wp2_with fail
 go_loopw [5] (fun kV wr => ∃ k : Nat, k <= xs.length /\ kV = .int .i64 (k : Int) /\ Below w.heap.size w wr) (fun kV _ => xs.length - (intOf kV).toNat)
 case atStart => exact ⟨0, Nat.zero_le _, rfl, Below.refl _ _⟩
 case round =>
  obtain ⟨k, hk, rfl, hbr⟩ := hrel
  have HBR := Lib.hid hbr
  clear hbr
  by_cases hlt : k < xs.length
  ·obtain ⟨ad1, rfl, hl1, hc1⟩ := H1.out.below HBR.out k hlt
   obtain ⟨ad2, rfl, hl2, hc2⟩ := H2.out.below HBR.out k hlt
   generalize xs.getD k 0 = x at *
   have exx : (x != x) = false := by simp
   have HBN : Hid (∀ q, Below w.heap.size w (wr.drewN q)) := fun q => HBR.out.trans ⟨rfl, rfl, rfl, Nat.le_refl _, fun _ _ => rfl⟩
   go_wp2_with fail
   go_quiet (fail)
   go_wp2
   go_roundw
   case rel => exact ⟨k + 1, hlt, by go_num, HBN.out _⟩
   case measure => simp [intOf]; omega
  ·obtain rfl : k = xs.length := by omega
   go_wp2
   go_ret
   exact ⟨rfl, HBR.out⟩
end
section
open Go.RowKit Go.Deep Sv
def StepsIn (w : World) (a : Option Addr) (st : List (Nat × Bool)) : Prop :=
 ∀ i, i < st.length -> ∃ g, a = some ⟨g, 0, none⟩ /\ g < w.heap.size /\ w.cell? ⟨g, i * 2, none⟩ = some (.int .i64 ((st.getD i (0, false)).1 : Int)) /\ w.cell? ⟨g, i * 2 + 1, none⟩ = some (.bool (st.getD i (0, false)).2)
theorem StepsIn.below {w w' : World} {a : Option Addr} {st : List (Nat × Bool)} (h : StepsIn w a st) (hb : Below w.heap.size w w') : StepsIn w' a st := by
 intro i hi
 obtain ⟨g, ha, hl, h0, h1⟩ := h i hi
 exact ⟨g, ha, Nat.lt_of_lt_of_le hl hb.size, (hb.cell (p := ⟨g, i * 2, none⟩) hl).trans h0, (hb.cell (p := ⟨g, i * 2 + 1, none⟩) hl).trans h1⟩
theorem steps_row {B : Nat} {w : World} {a : Option Addr} {c : Nat} {st : List (Nat × Bool)} (h : w.ownsRow B 89 2 (.slice a st.length c) st.length (stCells st)) : StepsIn w a st := by
 intro i hi
 rcases h.2 with ⟨e, e0⟩ | ⟨g, cap, cur, e, hB, hg, -⟩
 ·omega
 ·injection e with e1 e2 e3
  subst e1 e3
  exact ⟨g, rfl, (Array.getElem?_eq_some_iff.1 hg).1, (h.cellAt (i * 2) (by omega)).trans (stCells_at st i hi).1, (h.cellAt (i * 2 + 1) (by omega)).trans (stCells_at st i hi).2⟩
theorem ordR_lt {its : List It} {ls : List Ln} {set : Nat} {l : List Nat} (h : ordR its ls set = .ok l) : set < 2 ^ its.length := by
 have hf : (fitsF its ls set).1 = true := by
  cases hf : (fitsF its ls set).1 with
  | true => rfl
  | false => unfold ordR at h; rw [if_pos hf] at h; cases h
 cases hsb : singleB its set with
 | false => rw [show fitsF its ls set = (false, -2) by unfold fitsF; rw [if_pos hsb]] at hf; cases hf
 | true =>
  unfold singleB at hsb
  exact of_decide_eq_true (Bool.and_eq_true_iff.1 hsb).1
theorem ordR_ne {its : List It} {ls : List Ln} {set : Nat} {k : Int} (h : ordR its ls set = .error k) : k ≠ 0 := by
 rcases ordR_false h with ⟨-, rfl⟩ | ⟨-, rfl⟩ <;> decide
theorem chR_ne {its : List It} {ls : List Ln} {fr tt : Nat} {k : Int} (h : chR its ls fr tt = .error k) : k ≠ 0 := by
 unfold chR at h
 cases ha : ordR its ls fr with
 | error k1 => rw [ha] at h; cases h; exact ordR_ne ha
 | ok a =>
  rw [ha] at h
  cases hb : ordR its ls tt with
  | error k1 => simp only [hb] at h; cases h; exact ordR_ne hb
  | ok b => simp only [hb] at h; cases h
theorem ord_two (ls : List Ln) (its : List It) (hN : newF ls = .ok its) (set : Nat) (hs : set < 18446744073709551616) : ∃ (xs : List Int) (m : Int), xs.length <= 24 /\
  (∀ W v, RLs W v ls -> Calls Tryz.prog 32 #[v, .int .u64 (set : Int)] W fun e w' => ∃ a c, e = .returned (.tuple #[.slice a xs.length c, .int .i64 m]) /\ IntsIn w' a xs /\ Below W.heap.size W w') /\
  (∀ W bk, CatAt W bk ls its -> Calls Tryz.prog 33 #[.pointer (some ⟨bk, 0, none⟩), .int .u64 (set : Int)] W fun e w' => ∃ a c ev, e = .returned (.tuple #[.slice a xs.length c, ev]) /\ ErrIs w' ev m (-1) /\ IntsIn w' a xs /\ Below W.heap.size W w') := by
 have HR := fun W v h => rorder_any ls its hN set v W h
 have HP := fun W bk h => order_c bk ls its hN set W h hs
 cases hr : ordR its ls set with
 | error k =>
  have hk := ordR_ne hr
  refine ⟨[], k, by simp, fun W v h => ?_, fun W bk h => ?_⟩
  ·have H := HR W v h
   rw [hr] at H
   refine H.mono ?_
   rintro e w' ⟨rfl, hb⟩
   exact ⟨none, 0, rfl, IntsIn.nil _ _, hb⟩
  ·have H := HP W bk h
   rw [hr] at H
   refine H.mono ?_
   rintro e w' ⟨rfl, hb⟩
   exact ⟨none, 0, _, rfl, Or.inr (Or.inl ⟨hk, rfl, rfl⟩), IntsIn.nil _ _, hb⟩
 | ok l =>
  have hlen := (ordR_is hN (ordR_lt hr) hr).len
  have hnl : (natS l).length = l.length := by simp [natS]
  refine ⟨natS l, 0, by omega, fun W v h => ?_, fun W bk h => ?_⟩
  ·have H := HR W v h
   rw [hr] at H
   refine H.mono ?_
   rintro e w' ⟨v', rfl, hrow, hb⟩
   rw [<- hnl] at hrow
   obtain ⟨a, c, rfl, -⟩ := row_form hrow
   exact ⟨a, c, rfl, ints_row hrow, hb⟩
  ·have H := HP W bk h
   rw [hr] at H
   refine H.mono ?_
   rintro e w' ⟨v', rfl, hrow, hb⟩
   rw [<- hnl] at hrow
   obtain ⟨a, c, rfl, -⟩ := row_form hrow
   exact ⟨a, c, _, rfl, Or.inl ⟨rfl, rfl, rfl⟩, ints_row hrow, hb⟩
theorem ch_two (ls : List Ln) (its : List It) (hN : newF ls = .ok its) (fr tt : Nat) (h1 : fr < 18446744073709551616) (h2 : tt < 18446744073709551616) : ∃ (st : List (Nat × Bool)) (m : Int), st.length <= 48 /\ (∀ p ∈ st, p.1 < 24) /\
  (∀ W v, RLs W v ls -> Calls Tryz.prog 34 #[v, .int .u64 (fr : Int), .int .u64 (tt : Int)] W fun e w' => ∃ a c, e = .returned (.tuple #[.slice a st.length c, .int .i64 m]) /\ IntsIn w' a (st.map sgnF) /\ Below W.heap.size W w') /\
  (∀ W bk, CatAt W bk ls its -> Calls Tryz.prog 35 #[.pointer (some ⟨bk, 0, none⟩), .int .u64 (fr : Int), .int .u64 (tt : Int)] W fun e w' => ∃ a c ev, e = .returned (.tuple #[.slice a st.length c, ev]) /\ ErrIs w' ev m (-1) /\ StepsIn w' a st /\ Below W.heap.size W w') := by
 have HR := fun W v h => rchange_any ls its hN fr tt v W h h1 h2
 have HP := fun W bk h => change_c bk ls its hN fr tt W h h1 h2
 rcases chR_two (its := its) (ls := ls) (fr := fr) (tt := tt) with ⟨k, k2, hr, -⟩ | ⟨a, b, ha, hb, hr, -⟩
 ·have hk := chR_ne hr
  refine ⟨[], k, by simp, by simp, fun W v h => ?_, fun W bk h => ?_⟩
  ·have H := HR W v h
   rw [hr] at H
   refine H.mono ?_
   rintro e w' ⟨rfl, hb⟩
   exact ⟨none, 0, rfl, IntsIn.nil _ _, hb⟩
  ·have H := HP W bk h
   rw [hr] at H
   refine H.mono ?_
   rintro e w' ⟨rfl, hb⟩
   exact ⟨none, 0, _, rfl, Or.inr (Or.inl ⟨hk, rfl, rfl⟩), fun i hi => by simp at hi, hb⟩
 ·have hIS := steps_is (ordR_is hN (ordR_lt ha) ha) (ordR_is hN (ordR_lt hb) hb)
  have hl := (newF_ok hN).1
  generalize stepsF a b fr tt = st at *
  have hnl : (st.map sgnF).length = st.length := by simp
  refine ⟨st, 0, hIS.len, fun p hp => by have := hIS.lt p hp; omega, fun W v h => ?_, fun W bk h => ?_⟩
  ·have H := HR W v h
   rw [hr] at H
   refine H.mono ?_
   rintro e w' ⟨v', rfl, hrow, hb⟩
   obtain ⟨a, c, rfl, -⟩ := row_form hrow
   exact ⟨a, c, by rw [hnl], ints_row hrow, hb⟩
  ·have H := HP W bk h
   rw [hr] at H
   refine H.mono ?_
   rintro e w' ⟨v', rfl, hrow, hb⟩
   obtain ⟨a, c, rfl, -⟩ := (rowAt_own hrow).form
   exact ⟨a, c, _, rfl, Or.inl ⟨rfl, rfl, rfl⟩, steps_row hrow, hb⟩
theorem pors_none (s : ByteArray) (fr tt : Nat) (w : World) (hw : Lw w) (hF : FineR w) (ad : Addr) (cap : Nat) (hK : KindsAt w ad cap) (h : bothF s = none) : Calls Tryz.prog 7 #[.string s, .int .u64 (fr : Int), .int .u64 (tt : Int)] w fun r w' => r = .returned (.bool true) /\ Below w.heap.size w w' := by
 have HB0 := both_c s w hw hF ad cap hK
 rw [h] at HB0
 have HB : Hid (Calls Tryz.prog 11 #[.string s] w fun e w' => e = .returned (.tuple #[.pointer none, .slice none 0 0, .bool false]) /\ Below w.heap.size w w') := HB0
 clear HB0 hw hF hK h
 go_enter Tryz.func7, Tryz.ntmps7
 go_wp2_with fail
 refine HB.out.mono ?_
 rintro e w1 ⟨rfl, hb1⟩
 have HB1 := Lib.hid hb1
 clear hb1 HB
 go_wp2
 go_ret
 exact ⟨rfl, HB1.out⟩
theorem pors_some (s : ByteArray) (fr tt : Nat) (h1 : fr < 18446744073709551616) (h2 : tt < 18446744073709551616) (w : World) (hw : Lw w) (hF : FineR w) (ad : Addr) (cap : Nat) (hK : KindsAt w ad cap) (ls : List Ln) (its : List It) (h : bothF s = some (ls, its)) : Calls Tryz.prog 7 #[.string s, .int .u64 (fr : Int), .int .u64 (tt : Int)] w fun r w' => r = .returned (.bool true) /\ Below w.heap.size w w' := by
 have hN := bothF_new h
 have HB0 := both_c s w hw hF ad cap hK
 rw [h] at HB0
 have HB : Hid (Calls Tryz.prog 11 #[.string s] w fun e w' => ∃ bc v, e = .returned (.tuple #[.pointer (some ⟨bc, 0, none⟩), v, .bool true]) /\ CatAt w' bc ls its /\ RLs w' v ls /\ Below w.heap.size w w') := HB0
 have HG := Lib.hid hw.lb.glob
 obtain ⟨xs, m, hxl, hro, hpo⟩ := ord_two ls its hN fr h1
 obtain ⟨st, mc, hsl, hst, hrc, hpc⟩ := ch_two ls its hN fr tt h1 h2
 have HRO := Lib.hid hro
 have HPO := Lib.hid hpo
 have HRC := Lib.hid hrc
 have HPC := Lib.hid hpc
 have HST := Lib.hid hst
 clear HB0 hw hF hK h hN hro hpo hrc hpc hst
 go_enter Tryz.func7, Tryz.ntmps7
 go_wp2_with fail
 refine HB.out.mono ?_
 rintro e w1 ⟨bc, v, rfl, hcat, hrl, hb1⟩
 obtain ⟨va, vc, rfl⟩ : ∃ a c, v = .slice a ls.length c := by obtain ⟨vs', _, h2⟩ := hrl; obtain ⟨a, c, e, _⟩ := h2.form; exact ⟨a, c, e⟩
 have HR1 := Lib.hid (HRO.out w1 _ hrl)
 have HRL := Lib.hid hrl
 have HCAT := Lib.hid hcat
 have HB1 := Lib.hid hb1
 clear hb1 hcat hrl HB HRO
 go_wp2_with fail
 refine HR1.out.mono ?_
 rintro e w2 ⟨a2, c2, rfl, hi2, hb2⟩
 have HC2 := Lib.hid (HCAT.out.below hb2 (Nat.le_refl _))
 have HL2 := Lib.hid (HRL.out.below hb2 (Nat.le_refl _))
 have HP2 := Lib.hid (HPO.out w2 bc HC2.out)
 have HI2 := Lib.hid hi2
 have HB2 : Hid (Below w.heap.size w w2) := HB1.out.trans (hb2.mono HB1.out.size)
 clear hb2 hi2 HB1 HR1 HPO HCAT HRL
 go_wp2_with fail
 refine HP2.out.mono ?_
 rintro e w3 ⟨a3, c3, ev, rfl, hev, hi3, hb3⟩
 have HC3 := Lib.hid (HC2.out.below hb3 (Nat.le_refl _))
 have HL3 := Lib.hid (HL2.out.below hb3 (Nat.le_refl _))
 have HI3 := Lib.hid hi3
 have HI2' := Lib.hid (HI2.out.below hb3)
 have HB3 : Hid (Below w.heap.size w w3) := HB2.out.trans (hb3.mono HB2.out.size)
 have HBA0 := bare_any m m ev w3 (HG.out.below HB3.out) hev
 rw [beq_self_eq_true] at HBA0
 have HBA := Lib.hid HBA0
 clear hb3 hi3 hev HB2 HP2 HC2 HL2 HI2 HBA0
 go_wp2_with fail
 refine HBA.out.mono ?_
 rintro e w4 ⟨rfl, hb4⟩
 have HC4 := Lib.hid (HC3.out.below hb4 (Nat.le_refl _))
 have HL4 := Lib.hid (HL3.out.below hb4 (Nat.le_refl _))
 have HS4 := Lib.hid (same_ints xs a3 a2 c3 c2 w4 (HI3.out.below hb4) (HI2'.out.below hb4) (by omega))
 have HB4 : Hid (Below w.heap.size w w4) := HB3.out.trans (hb4.mono HB3.out.size)
 clear hb4 HB3 HC3 HL3 HI3 HI2' HBA
 go_wp2_with fail
 refine HS4.out.mono ?_
 rintro e w5 ⟨rfl, hb5⟩
 have HC5 := Lib.hid (HC4.out.below hb5 (Nat.le_refl _))
 have HR5 := Lib.hid (HRC.out w5 _ (HL4.out.below hb5 (Nat.le_refl _)))
 have HB5 : Hid (Below w.heap.size w w5) := HB4.out.trans (hb5.mono HB4.out.size)
 clear hb5 HB4 HC4 HL4 HS4 HRC
 go_wp2_with fail
 refine HR5.out.mono ?_
 rintro e w6 ⟨a6, c6, rfl, hi6, hb6⟩
 have HP6 := Lib.hid (HPC.out w6 bc (HC5.out.below hb6 (Nat.le_refl _)))
 have HI6 := Lib.hid hi6
 have HB6 : Hid (Below w.heap.size w w6) := HB5.out.trans (hb6.mono HB5.out.size)
 clear hb6 hi6 HB5 HC5 HR5 HPC
 go_wp2_with fail
 refine HP6.out.mono ?_
 rintro e w7 ⟨a7, c7, ew, rfl, hew, hs7, hb7⟩
 have HI7 := Lib.hid (HI6.out.below hb7)
 have HS7 := Lib.hid hs7
 have HB7 : Hid (Below w.heap.size w w7) := HB6.out.trans (hb7.mono HB6.out.size)
 have HBA0 := bare_any mc mc ew w7 (HG.out.below HB7.out) hew
 rw [beq_self_eq_true] at HBA0
 have HBA := Lib.hid HBA0
 clear hb7 hs7 hew HB6 HP6 HI6 HBA0 HG
 go_wp2_with fail
 refine HBA.out.mono ?_
 rintro e w8 ⟨rfl, hb8⟩
 have HI8 := Lib.hid (HI7.out.below hb8)
 have HS8 := Lib.hid (HS7.out.below hb8)
 have HB8 : Hid (Below w.heap.size w w8) := HB7.out.trans (hb8.mono HB7.out.size)
 have hnn : ((st.length : Int) != (st.length : Int)) = false := by simp
 clear hb8 HB7 HI7 HS7 HBA
 go_wp2_with fail
 go_loopw [16] (fun iV wr => ∃ i : Nat, i <= st.length /\ iV = .int .i64 (i : Int) /\ Below w8.heap.size w8 wr) (fun iV _ => st.length - (intOf iV).toNat)
 case atStart => exact ⟨0, Nat.zero_le _, rfl, Below.refl _ _⟩
 case round =>
  obtain ⟨i, hil, rfl, hbr⟩ := hrel
  have HBR := Lib.hid hbr
  by_cases hlt : i < st.length
  ·obtain ⟨g, rfl, hgl, q0, q1⟩ := HS8.out.below hbr i hlt
   obtain ⟨ag, rfl, hal, q2⟩ := HI8.out.below hbr i (by simpa using hlt)
   have hmem : st.getD i (0, false) ∈ st := by rw [List.getD_eq_getElem?_getD, List.getElem?_eq_getElem hlt]; exact List.getElem_mem hlt
   have hx24 := HST.out _ hmem
   have hsg : (st.map sgnF).getD i 0 = sgnF (st.getD i (0, false)) := by simp [List.getD_eq_getElem?_getD, hlt]
   rw [hsg] at q2
   clear hsg hmem
   generalize st.getD i (0, false) = sx at *
   obtain ⟨x, c⟩ := sx
   have hx24' : x < 24 := hx24
   have p0 : wr.cell? ⟨g, i * 2, none⟩ = some (.int .i64 (x : Int)) := q0
   have p1 : wr.cell? ⟨g, i * 2 + 1, none⟩ = some (.bool c) := q1
   obtain ⟨Y, hY⟩ : ∃ Y : Int, (x : Int) + 1 = Y := ⟨_, rfl⟩
   obtain ⟨Z, hZ⟩ : ∃ Z : Int, -Y = Z := ⟨_, rfl⟩
   have e1 : IntKind.i64.wrap ((x : Int) + 1) = Y := by rw [hY, IntKind.wrap_i64]; omega
   have e2 : IntKind.i64.wrap (-Y) = Z := by rw [hZ, IntKind.wrap_i64]; omega
   have e3 : IntKind.i64.wrap (-Z) = Y := by rw [IntKind.wrap_i64]; omega
   have hii0 : (0 : Int) <= (i : Int) := by omega
   have hii1 : (i : Int) < (st.length : Int) := by omega
   have HBN : Hid (∀ q, Below w8.heap.size w8 (wr.drewN q)) := fun q => HBR.out.trans ⟨rfl, rfl, rfl, Nat.le_refl _, fun _ _ => rfl⟩
   have hyy : (Y != Y) = false := by simp
   have hzz : (Z != Z) = false := by simp
   cases c with
   | true =>
    have p2 : wr.cell? (ag.add i) = some (.int .i64 Y) := by rw [q2]; show some (Value.int .i64 ((x : Int) + 1)) = _; rw [hY]
    clear q0 q1 q2 hx24 hx24' hY hZ hbr HBN
    go_wp2
    go_roundw
    case rel => exact ⟨i + 1, hlt, by go_num, HBR.out⟩
    case measure => simp [intOf]; omega
   | false =>
    have p2 : wr.cell? (ag.add i) = some (.int .i64 Z) := by rw [q2]; show some (Value.int .i64 (-((x : Int) + 1))) = _; rw [hY, hZ]
    clear q0 q1 q2 hx24 hx24' hY hZ hbr HBN
    go_wp2
    go_roundw
    case rel => exact ⟨i + 1, hlt, by go_num, HBR.out⟩
    case measure => simp [intOf]; omega
  ·obtain rfl : i = st.length := by omega
   have HB9 : Hid (Below w.heap.size w wr) := HB8.out.trans (hbr.mono HB8.out.size)
   clear hbr HBR
   go_wp2
   go_ret
   exact ⟨rfl, HB9.out⟩
theorem pors_any (s : ByteArray) (fr : Nat) (h1 : fr < 18446744073709551616) (tt : Nat) (h2 : tt < 18446744073709551616) (w : World) (hw : Lw w) (hF : FineR w) (ad : Addr) (cap : Nat) (hK : KindsAt w ad cap) : Calls Tryz.prog 7 #[.string s, .int .u64 (fr : Int), .int .u64 (tt : Int)] w fun r w' => r = .returned (.bool true) /\ Below w.heap.size w w' := by
 cases h : bothF s with
 | none => exact pors_none s fr tt w hw hF ad cap hK h
 | some r => exact pors_some s fr tt h1 h2 w hw hF ad cap hK r.1 r.2 h
end
end Go.Proofs.YtpmpnbbihmgdpaaGreatDoor
