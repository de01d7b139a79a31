/- PlanFits: the law's walk. -/
import Derived.Test.YtpmpnbbihmgdpaaGreatDoorClinesL
import Derived.Test.YtpmpnbbihmgdpaaGreatDoorCtParse
import Derived.Test.YtpmpnbbihmgdpaaGreatDoorPlAmong
import Derived.Test.YtpmpnbbihmgdpaaGreatDoorPlRFits
set_option maxHeartbeats 4000000
set_option maxRecDepth 100000
namespace Go.Proofs.YtpmpnbbihmgdpaaGreatDoor
section
open Go.RowKit Go.Deep Go.Shelf Sv
theorem gathF_err : ∀ (ls : List Ln) (i : Nat) (its : List It) (k : Int) (j : Nat), gathF ls i its = .error (k, j) -> k ≠ 0 := by
 intro ls
 induction ls with
 | nil => intro i its k j h; cases h
 | cons x r ih =>
  intro i its k j h
  unfold gathF at h
  split at h
  ·rename_i hz; cases h; exact hz
  ·split at h
   ·split at h
    ·cases h; decide
    ·split at h
     ·cases h; decide
     ·exact ih _ _ _ _ h
   ·exact ih _ _ _ _ h
theorem newF_err {ls : List Ln} {q : Int} {o : Option Nat} (h : newF ls = .error (q, o)) : q ≠ 0 := by
 unfold newF at h
 split at h
 ·cases h; decide
 ·split at h
  ·rename_i e he
   obtain ⟨e1, e2⟩ := e
   cases h
   exact gathF_err _ _ _ _ _ he
  ·split at h
   ·cases h; decide
   ·cases h
def RcRes (w : World) (r : Except (Int × Option Nat) (List Ln × List It)) (e : Ending) (w' : World) : Prop :=
 ∃ (v : Value) (k p : Int), e = .returned (.tuple #[v, .agg #[.int .i64 k, .int .i64 p]]) /\ Below w.heap.size w w' /\ match r with
  | .ok (ls, _) => RLs w' v ls /\ k = 0 /\ p = -1
  | .error (q, o) => v = .slice none 0 0 /\ k = q /\ p = placeO o
theorem rcatp_long (s : ByteArray) (w : World) (h : 20000 < s.size) : Calls Tryz.prog 41 #[.string s] w (RcRes w (.error (4, none))) := by
 have h' : (20000 : Int) < (s.size : Int) := by omega
 have HBR := Lib.hid (refBare 4 (w.alloc (.cells #[.int .i64 0, .int .i64 0] 49)))
 have kf := Blk.new w 49 #[.int .i64 0, .int .i64 0]
 have hbf : Below w.heap.size w (w.alloc (.cells #[.int .i64 0, .int .i64 0] 49)) := (Below.refl _ w).alloc (Nat.le_refl _) _
 clear h
 go_enter Tryz.func41, Tryz.ntmps41
 go_wp2_with fail
 refine HBR.out.mono ?_
 rintro e w1 ⟨rfl, hb1⟩
 have kf1 := kf.below hb1 kf.lt
 have hB1 := hbf.trans (hb1.mono hbf.size)
 have q0 : w1.cell? ⟨w.heap.size, 0, none⟩ = some (.int .i64 0) := kf1.cell 0
 have q1 : w1.cell? ⟨w.heap.size, 1, none⟩ = some (.int .i64 0) := kf1.cell 1
 have q2 := kf1.frozen 0
 have q3 := kf1.frozen 1
 obtain ⟨⟨p0, p1⟩, p2, p3, p4⟩ := put2 kf1 hB1 (Nat.le_refl _) 4 (-1)
 have P2 := Lib.hid p2
 have P3 := Lib.hid p3
 have P4 := Lib.hid p4
 clear p2 p3 p4
 clear kf kf1 hbf hb1 HBR hB1
 go_wp2
 exact bodyPost_ret (v := .tuple #[.slice none 0 0, .agg #[.int .i64 4, .int .i64 (-1)]]) (by simp [results, Tryz.results41, go_sem, P2.out, P3.out]) rfl ⟨_, _, _, rfl, P4.out, rfl, rfl, rfl⟩
theorem piece_cell {L : List (Nat × ByteArray)} {k : Nat} (hk : k < L.length) : (((L.map (·.2)).map Value.string).toArray)[k]? = some (.string (px L k).2) := by
 rw [px_at L k hk]
 simp [hk]
def PInv (L : List (Nat × ByteArray)) (W0 : World) (lV sV aV kV : Value) (wz : World) : Prop := ∃ (k a : Nat) (acc : List (Nat × Ln)) (vs : List Value), k <= L.length /\ kV = .int .i64 (k : Int) /\ aV = .int .i64 (a : Int) /\ a <= 30000 /\ (k < L.length -> a = (px L k).1) /\ acc.length <= k /\ plF ((L.take k).filter (fun x => decide (x.2.size ≠ 0))) [] = .ok acc /\ RPS W0 wz lV sV (acc.map Prod.snd) vs (acc.map Prod.fst)
theorem rcatp_any (s : ByteArray) (w : World) (hw : Lb w) (hF : FineR w) (ad : Addr) (cap : Nat) (hK : KindsAt w ad cap) : Calls Tryz.prog 41 #[.string s] w (RcRes w (parseF s)) := by
 by_cases hs : 20000 < s.size
 ·have e : parseF s = .error (4, none) := by unfold parseF; rw [if_pos hs]
  rw [e]; exact rcatp_long s w hs
 obtain ⟨R, hR⟩ : ∃ R, parseF s = R := ⟨_, rfl⟩
 rw [hR]
 have hR2 := hR
 unfold parseF at hR2
 rw [if_neg hs, lns_cut s s.size 0 (by omega) (Nat.zero_le _)] at hR2
 have hcu := cuts_of s ⟨#[10]⟩
 have HSP := Lib.hid (split_gen s ⟨#[10]⟩ (by decide) (w.alloc (.cells #[.int .i64 0, .int .i64 0] 49)) (by omega) (hw.below ((Below.refl _ w).alloc (Nat.le_refl _) _)))
 generalize cutB s ⟨#[10]⟩ s.size 0 = L at *
 have HCU := Lib.hid hcu
 have HR := Lib.hid hR2
 have HW := Lib.hid hw
 have HFN := Lib.hid hF
 have HKD := Lib.hid hK
 have hs' : ¬ (20000 : Int) < (s.size : Int) := by omega
 have hLl := hcu.len
 have kf := Blk.new w 49 #[.int .i64 0, .int .i64 0]
 have hbf : Below w.heap.size w (w.alloc (.cells #[.int .i64 0, .int .i64 0] 49)) := (Below.refl _ w).alloc (Nat.le_refl _) _
 clear hR hR2 hcu hw hF hK
 obtain ⟨i0, hin, hz0, hz1, hz2⟩ := info_parts infoRLn
 obtain ⟨i1, hin1, hy0, hy1, hy2⟩ := info_parts infoInt
 go_enter Tryz.func41, Tryz.ntmps41
 go_wp2_with fail
 refine HSP.out.mono ?_
 rintro e W0 ⟨rfl, hpc, hb0⟩
 have HKF : Hid (Blk W0 w.heap.size 49 #[.int .i64 0, .int .i64 0]) := kf.below hb0 kf.lt
 have HPC := Lib.hid hpc
 have HB0 : Hid (Below w.heap.size w W0) := hbf.trans (hb0.mono hbf.size)
 clear kf hbf hpc hb0 HSP
 rw [World.size_alloc] at HPC
 simp only [World.size_alloc]
 go_wp2_with fail
 go_loopw [4, 5, 6, 19] (fun lV sV aV kV wz => PInv L W0 lV sV aV kV wz) (fun _ _ _ kV _ => L.length - (intOf kV).toNat)
 case atStart => exact ⟨0, 0, [], [], Nat.zero_le _, rfl, rfl, by omega, fun _ => HCU.out.first.symm, Nat.le_refl _, rfl, RPS.start _⟩
 case round =>
  obtain ⟨k, a, acc, vs, hk, rfl, rfl, ha, hak, hacl, hpl, hps⟩ := hrel
  obtain ⟨ls, hls⟩ : ∃ ls, acc.map Prod.snd = ls := ⟨_, rfl⟩
  obtain ⟨ss, hss⟩ : ∃ ss, acc.map Prod.fst = ss := ⟨_, rfl⟩
  have hl2 : ls.length <= k := by rw [<- hls, List.length_map]; exact hacl
  have hl1 : ss.length <= k := by rw [<- hss, List.length_map]; exact hacl
  rw [hls, hss] at hps
  have HLS := Lib.hid hls
  have HSS := Lib.hid hss
  clear hls hss
  obtain ⟨lva, lvc, rfl, -⟩ := (rowAt_own hps.lrow).form
  obtain ⟨sva, svc, rfl, -⟩ := (rowAt_own hps.srow).form
  by_cases hlt : k < L.length
  ·have hroom := HCU.out.room k hlt
   have hnext := HCU.out.next k
   have ea := hak hlt
   have htk := pl_take hlt hpl
   have cp : wr.cell? ⟨w.heap.size + 1, k, none⟩ = some (.string (px L k).2) := ((HPC.out.below hps.B HPC.out.lt).cell k).trans (piece_cell hlt)
   have hm : (⟨#[10]⟩ : ByteArray).size = 1 := rfl
   rw [hm] at hnext
   have HTK := Lib.hid htk
   have HPS := Lib.hid hps
   clear htk hpl hps hak hm
   obtain ⟨pl, hpl⟩ : ∃ pl, (px L k).1 = pl := ⟨_, rfl⟩
   obtain ⟨pc, hpc⟩ : ∃ pc, (px L k).2 = pc := ⟨_, rfl⟩
   rw [hpl, hpc] at hroom hnext HTK
   rw [hpl] at ea
   rw [hpc] at cp
   clear hpl hpc
   subst ea
   have hnx := Lib.hid hnext
   clear hnext
   by_cases h0 : pc.size = 0
   ·obtain rfl := bytes_empty h0
    have HT2 : Hid (plF ((L.take (k + 1)).filter (fun x => decide (x.2.size ≠ 0))) [] = .ok acc) := by have h := HTK.out; rw [if_pos (show (⟨#[]⟩ : ByteArray).size = 0 from rfl)] at h; exact h
    clear HTK h0
    clear hin hz0 hz1 hz2 hin1 hy0 hy1 hy2
    go_wp2
    go_roundw
    case rel => exact ⟨k + 1, a + 1, acc, vs, by omega, by go_num, by go_num, by omega, fun h => (hnx.out h).symm, by omega, HT2.out, by rw [HLS.out, HSS.out]; exact HPS.out⟩
    case measure => simp [intOf]; omega
   ·have he1 : pc.toList.isEmpty = false := bytes_not_empty (by omega)
    have he2 : (pc.toList == []) = false := by rw [beq_eq_false_iff_ne]; intro h; rw [h] at he1; cases he1
    have hBw := HB0.out.trans (HPS.out.B.mono HB0.out.size)
    have HLP := Lib.hid (rline_any pc wr (by omega) (HW.out.below hBw) (HFN.out.below hBw) ad cap (HKD.out.below hBw))
    rw [if_neg h0] at HTK
    clear hBw
    go_wp2_with fail
    refine HLP.out.mono ?_
    rintro e w1 ⟨x, ra, rc, q, p, rfl, hns, hrg, hnew, hb1, hok⟩
    have hps1 := HPS.out.step hb1
    have hA : Below w1.heap.size w1 ((w1.alloc (.cells #[.int .i64 x.kind, .string x.name, .int .i64 x.a, .int .i64 x.b, .int .i64 x.c, .string x.other, .slice ra (tp x.rng).length rc] 54)).alloc (.cells #[.int .i64 q, .int .i64 p] 49)) := ((Below.refl _ w1).alloc (Nat.le_refl _) _).alloc (by simp) _
    have kl := (Blk.new w1 54 #[.int .i64 x.kind, .string x.name, .int .i64 x.a, .int .i64 x.b, .int .i64 x.c, .string x.other, .slice ra (tp x.rng).length rc]).alloc (.cells #[.int .i64 q, .int .i64 p] 49)
    have kq := Blk.new (w1.alloc (.cells #[.int .i64 x.kind, .string x.name, .int .i64 x.a, .int .i64 x.b, .int .i64 x.c, .string x.other, .slice ra (tp x.rng).length rc] 54)) 49 #[.int .i64 q, .int .i64 p]
    rw [World.size_alloc] at kq
    have HP2 := Lib.hid (hps1.step hA)
    have HNS := Lib.hid (hns.below hA (Nat.le_refl _))
    have HRG := Lib.hid hrg
    have HNW := Lib.hid hnew
    have HOK := Lib.hid hok
    have HKL := Lib.hid kl
    have HKQ := Lib.hid kq
    have hwr := hb1.size
    clear hps1 hA kl kq hns hrg hnew hok hb1 HLP cp
    go_upto_region 11 with fail
    generalize (w1.alloc (.cells #[.int .i64 x.kind, .string x.name, .int .i64 x.a, .int .i64 x.b, .int .i64 x.c, .string x.other, .slice ra (tp x.rng).length rc] 54)).alloc (.cells #[.int .i64 q, .int .i64 p] 49) = W2 at *
    have k0 : W2.cell? ⟨w1.heap.size + 1, 0, none⟩ = some (.int .i64 q) := HKQ.out.cell 0
    have k1 : W2.cell? ⟨w1.heap.size + 1, 1, none⟩ = some (.int .i64 p) := HKQ.out.cell 1
    cases hlf : lineF pc with
    | error e =>
     obtain ⟨q', o⟩ := e
     have hq0 := lineF_err hlf
     have h1 := HOK.out
     have h2 := HTK.out
     rw [hlf] at h1 h2
     obtain ⟨rfl, rfl, rfl⟩ := h1
     have HRE : Hid (R = .error (q, some a)) := by show _ = _; rw [<- HR.out, pl_err h2]
     have hq1 : (q == 0) = false := by rw [beq_eq_false_iff_ne]; exact hq0
     have kf2 : Blk W2 w.heap.size 49 #[.int .i64 0, .int .i64 0] := HKF.out.below HP2.out.B HKF.out.lt
     have hB2 : Below w.heap.size w W2 := HB0.out.trans (HP2.out.B.mono HB0.out.size)
     have q0 : W2.cell? ⟨w.heap.size, 0, none⟩ = some (.int .i64 0) := kf2.cell 0
     have q1 : W2.cell? ⟨w.heap.size, 1, none⟩ = some (.int .i64 0) := kf2.cell 1
     have q2 := kf2.frozen 0
     have q3 := kf2.frozen 1
     obtain ⟨⟨p0, p1⟩, p2, p3, p4⟩ := put2 kf2 hB2 (Nat.le_refl _) q (a : Int)
     have P2 := Lib.hid p2
     have P3 := Lib.hid p3
     have P4 := Lib.hid p4
     clear p2 p3 p4
     clear hlf h2 hq0 HTK HR HOK HPS
     go_wp2_with fail
     go_region
     go_wp2
     exact bodyPost_ret (v := .tuple #[.slice none 0 0, .agg #[.int .i64 q, .int .i64 (a : Int)]]) (by simp [results, Tryz.results41, go_sem, P2.out, P3.out]) rfl (by rw [HRE.out]; exact ⟨_, _, _, rfl, P4.out.drew, rfl, rfl, rfl⟩)
    | ok y =>
     have h1 := HOK.out
     have h2 := HTK.out
     rw [hlf] at h1 h2
     obtain ⟨rfl, rfl, rfl⟩ := h1
     have HT2 : Hid (plF ((L.take (k + 1)).filter (fun x => decide (x.2.size ≠ 0))) [] = .ok (acc ++ [(a, x)])) := h2
     have d0 : W2.cell? ⟨w1.heap.size, 0, none⟩ = some (.int .i64 x.kind) := HKL.out.cell 0
     have d1 : W2.cell? ⟨w1.heap.size, 1, none⟩ = some (.string x.name) := HKL.out.cell 1
     have d2 : W2.cell? ⟨w1.heap.size, 2, none⟩ = some (.int .i64 x.a) := HKL.out.cell 2
     have d3 : W2.cell? ⟨w1.heap.size, 3, none⟩ = some (.int .i64 x.b) := HKL.out.cell 3
     have d4 : W2.cell? ⟨w1.heap.size, 4, none⟩ = some (.int .i64 x.c) := HKL.out.cell 4
     have d5 : W2.cell? ⟨w1.heap.size, 5, none⟩ = some (.string x.other) := HKL.out.cell 5
     have d6 : W2.cell? ⟨w1.heap.size, 6, none⟩ = some (.slice ra (tp x.rng).length rc) := HKL.out.cell 6
     have HROW := Lib.hid HP2.out.lrow
     have hw2 := HP2.out.B.size
     have hwr0 := HPS.out.B.size
     have HLT := Lib.hid HPS.out.lrow
     have HST := Lib.hid HPS.out.srow
     clear hlf h2 HTK HOK HPS k1 HKQ HKL
     have hb3 : Below W2.heap.size W2 (W2.alloc (.cells #[.int .i64 x.kind, .string x.name, .int .i64 x.a, .int .i64 x.b, .int .i64 x.c, .string x.other, .slice ra (tp x.rng).length rc] 54)) := (Below.refl _ _).alloc (Nat.le_refl _) _
     have HP3 := Lib.hid (HP2.out.step hb3)
     have HNS3 := Lib.hid (HNS.out.below hb3 (Nat.le_refl _))
     clear hb3
     go_wp2_with (at_builtin; refine wpList_append_own_at _ rfl _ _ 25 rfl W0.heap.size 54 i0 (.agg #[.int .i64 0, .string ⟨#[]⟩, .int .i64 0, .int .i64 0, .int .i64 0, .string ⟨#[]⟩, .slice none 0 0]) 7 88 Tryz.underlying25 hin hz0 hz1 hz2 rfl (by decide) _ _ _ rfl (HROW.out.alloc _) ⟨W2.heap.size, 0, none⟩ 1 1 [.int .i64 x.kind, .string x.name, .int .i64 x.a, .int .i64 x.b, .int .i64 x.c, .string x.other, .slice ra (tp x.rng).length rc] rfl rfl ?c1 ?c2 ?c3 ?c4 ?c5 ?_)
     case c1 => exact cell_seven_new _ _ _ _ _ _ _ _ _
     case c2 => intro u hu; simp at hu; rcases hu with rfl | rfl | rfl | rfl | rfl | rfl | rfl <;> rfl
     case c3 => unfold maxLen; omega
     case c4 => omega
     case c5 => simp; omega
     intro v4 w4 hown4 hgrow4 _ hloc4
     have hn4 : 0 < x.rng.length -> ∀ g, (Value.slice ra (tp x.rng).length rc).ownBlock = some g -> W0.heap.size <= g /\ some g ≠ (Value.slice lva ls.length lvc).ownBlock /\ some g ≠ (Value.slice sva ss.length svc).ownBlock := fun _ g hg => ⟨Nat.le_trans hwr0 (HNW.out g hg), fun e => by have h1 := HNW.out g hg; have h2 := (HLT.out.lt g e.symm).2; omega, fun e => by have h1 := HNW.out g hg; have h2 := (HST.out.lt g e.symm).2; omega⟩
     have hp4 := HP3.out.appL HNS3.out HRG.out hn4 hown4 hgrow4 (by rw [World.size_alloc]; exact hloc4)
     obtain ⟨v4a, v4c, rfl, -⟩ := (rowAt_own hp4.lrow).form
     have HP4 := Lib.hid hp4
     have HROW4 := Lib.hid hp4.srow
     have hw4 := hp4.B.size
     have hb5 : Below w4.heap.size w4 (w4.alloc (.cells #[.int .i64 (a : Int)] 3)) := (Below.refl _ _).alloc (Nat.le_refl _) _
     have HP5 := Lib.hid (hp4.step hb5)
     clear hown4 hgrow4 hloc4 hn4 hp4 hb5 HROW HP3 HP2 HNS HNS3 HRG HNW HLT HST d0 d1 d2 d3 d4 d5 d6
     go_wp2_with (at_builtin; refine wpList_append_own_at _ rfl _ _ 31 rfl W0.heap.size 3 i1 (.int .i64 0) 1 8 Tryz.underlying31 hin1 hy0 hy1 hy2 rfl (by decide) _ _ _ rfl (HROW4.out.alloc _) ⟨w4.heap.size, 0, none⟩ 1 1 [.int .i64 (a : Int)] rfl rfl ?a1 ?a2 ?a3 ?a4 ?a5 ?_)
     case a1 => exact cell_lit _ _ _
     case a2 => exact one_lit _
     case a3 => unfold maxLen; omega
     case a4 => omega
     case a5 => simp; omega
     intro v6 w6 hown6 hgrow6 _ hloc6
     have HP6 := Lib.hid (HP5.out.appS (k := a) hown6 hgrow6 (by rw [World.size_alloc]; exact hloc6))
     clear hown6 hgrow6 hloc6 HP5 HP4 HROW4
     go_wp2
     go_roundw
     case rel => exact ⟨k + 1, a + pc.size + 1, acc ++ [(a, x)], vs ++ [.slice ra (tp x.rng).length rc], by omega, by go_num, by go_num, by omega, fun h => (hnx.out h).symm, by simp; omega, HT2.out, by have h := HP6.out; rw [show (ls ++ [x]).length = ls.length + 1 by simp] at h; rw [List.map_append, List.map_append, HLS.out, HSS.out]; exact h⟩
     case measure => simp [intOf]; omega
  ·obtain rfl : k = L.length := by omega
   have hfull : plF (L.filter (fun x => decide (x.2.size ≠ 0))) [] = .ok acc := by have h := hpl; rw [List.take_length] at h; exact h
   have hB0 := HB0.out.trans (hps.B.mono HB0.out.size)
   have HCC := Lib.hid (rcatc_any ls (.slice lva ls.length lvc) wr hps.rls (by omega) (HFN.out.below hB0))
   have HFU := Lib.hid hfull
   have HP1 := Lib.hid hps
   clear hpl hfull hB0 hps HCU HPC hak hlt hacl hin hz0 hz1 hz2 hin1 hy0 hy1 hy2
   obtain ⟨NK, hNK⟩ : ∃ NK, newK (newF ls) = NK := ⟨_, rfl⟩
   rw [hNK] at HCC
   go_wp2_with fail
   refine HCC.out.mono ?_
   rintro e w1 ⟨rfl, hb1⟩
   have hA : Below w1.heap.size w1 (w1.alloc (.cells #[.int .i64 NK.1, .int .i64 NK.2] 49)) := (Below.refl _ _).alloc (Nat.le_refl _) _
   have kq := Blk.new w1 49 #[.int .i64 NK.1, .int .i64 NK.2]
   have HP2 := Lib.hid ((HP1.out.step hb1).step hA)
   have HNK := Lib.hid hNK
   have hbne : w.heap.size ≠ w1.heap.size := by have h1 := HKF.out.lt; have h2 := HP1.out.B.size; have h3 := hb1.size; omega
   have hble : w.heap.size <= w1.heap.size := by have h1 := HKF.out.lt; have h2 := HP1.out.B.size; have h3 := hb1.size; omega
   clear hA hb1 HCC HP1 hNK
   go_upto_region 17 with fail
   generalize w1.alloc (.cells #[.int .i64 NK.1, .int .i64 NK.2] 49) = W2 at *
   generalize w1.heap.size = bf at *
   have kf2 : Blk W2 w.heap.size 49 #[.int .i64 0, .int .i64 0] := HKF.out.below HP2.out.B HKF.out.lt
   have hB2 : Below w.heap.size w W2 := HB0.out.trans (HP2.out.B.mono HB0.out.size)
   have k0 : W2.cell? ⟨bf, 0, none⟩ = some (.int .i64 NK.1) := kq.cell 0
   have k1 : W2.cell? ⟨bf, 1, none⟩ = some (.int .i64 NK.2) := kq.cell 1
   cases hn : newF ls with
   | ok its =>
    have h1 := HNK.out
    have h2 := HR.out
    rw [HFU.out] at h2
    simp only [HLS.out, hn] at h2
    rw [hn] at h1
    obtain rfl : (0, -1) = NK := h1
    have HRE : Hid (R = .ok (ls, its)) := h2.symm
    have hf1 := HFN.out.below hB2
    have g0 := hf1.c0
    have g1 := hf1.c1
    have q0 : W2.cell? ⟨w.heap.size, 0, none⟩ = some (.int .i64 0) := kf2.cell 0
    have q1 : W2.cell? ⟨w.heap.size, 1, none⟩ = some (.int .i64 0) := kf2.cell 1
    have q2 := kf2.frozen 0
    have q3 := kf2.frozen 1
    obtain ⟨⟨p0, p1⟩, p2, p3, p4⟩ := put2 kf2 hB2 (Nat.le_refl _) 0 (-1)
    have P2 := Lib.hid p2
    have P3 := Lib.hid p3
    have P4 := Lib.hid p4
    clear p2 p3 p4
    have HRL : Hid (RLs ((W2.setCell ⟨w.heap.size, 0, none⟩ (.int .i64 0)).setCell ⟨w.heap.size, 1, none⟩ (.int .i64 (-1))) (.slice lva ls.length lvc) ls) := HP2.out.rlsSet HKF.out.lt
    clear h2 hn hf1 kq kf2 HKF HNK HP2 hB2
    go_wp2_with fail
    go_region
    go_wp2
    exact bodyPost_ret (v := .tuple #[.slice lva ls.length lvc, .agg #[.int .i64 0, .int .i64 (-1)]]) (by simp [results, Tryz.results41, go_sem, P2.out, P3.out]) rfl (by rw [HRE.out]; exact ⟨_, _, _, rfl, P4.out.drew, HRL.out.below (Below.refl _ _).drew (Nat.le_refl _), rfl, rfl⟩)
   | error e =>
    obtain ⟨q, o⟩ := e
    have hq0 := newF_err hn
    cases o with
    | none =>
     have h1 := HNK.out
     have h2 := HR.out
     rw [HFU.out] at h2
     simp only [HLS.out, hn] at h2
     rw [hn] at h1
     obtain rfl : (q, -1) = NK := h1
     have HRE : Hid (R = .error (q, none)) := h2.symm
     have hq1 : (q == 0) = false := by rw [beq_eq_false_iff_ne]; exact hq0
     simp only at k0 k1
     have q0 : W2.cell? ⟨w.heap.size, 0, none⟩ = some (.int .i64 0) := kf2.cell 0
     have q1 : W2.cell? ⟨w.heap.size, 1, none⟩ = some (.int .i64 0) := kf2.cell 1
     have q2 := kf2.frozen 0
     have q3 := kf2.frozen 1
     obtain ⟨⟨p0, p1⟩, p2, p3, p4⟩ := put2 kf2 hB2 (Nat.le_refl _) q (-1)
     have P2 := Lib.hid p2
     have P3 := Lib.hid p3
     have P4 := Lib.hid p4
     clear p2 p3 p4
     clear h2 hn kq kf2 HKF HNK HP2 hB2 hq0
     go_wp2_with fail
     go_region
     go_wp2
     exact bodyPost_ret (v := .tuple #[.slice none 0 0, .agg #[.int .i64 q, .int .i64 (-1)]]) (by simp [results, Tryz.results41, go_sem, P2.out, P3.out]) rfl (by rw [HRE.out]; exact ⟨_, _, _, rfl, P4.out.drew, rfl, rfl, rfl⟩)
    | some i =>
     have hil := newF_lt hn
     have h1 := HNK.out
     have h2 := HR.out
     rw [HFU.out] at h2
     simp only [HLS.out, HSS.out, hn] at h2
     rw [hn] at h1
     obtain rfl : (q, (i : Int)) = NK := h1
     have hq1 : (q == 0) = false := by rw [beq_eq_false_iff_ne]; exact hq0
     have hsl : ss.length = ls.length := by rw [<- HLS.out, <- HSS.out, List.length_map, List.length_map]
     have his : i < ss.length := by omega
     obtain ⟨g, cap', e1, hg, hc⟩ := (rowAt_own HP2.out.srow).cells (by omega)
     simp at e1
     obtain ⟨rfl, rfl⟩ := e1
     obtain ⟨Pi, hPi⟩ : ∃ Pi, ss.getD i 0 = Pi := ⟨_, rfl⟩
     have ci : W2.cell? ⟨g, i, none⟩ = some (.int .i64 (Pi : Int)) := hc i _ (by rw [<- hPi]; simp [icells, his])
     rw [hPi] at h2
     have HRE : Hid (R = .error (q, some Pi)) := h2.symm
     simp only at k0 k1
     have fz1 := kq.frozen 1
     have kq3 : Blk (W2.setCell ⟨bf, 1, none⟩ (.int .i64 (Pi : Int))) bf 49 #[.int .i64 q, .int .i64 (Pi : Int)] := kq.set (i := 1)
     have kf3 : Blk (W2.setCell ⟨bf, 1, none⟩ (.int .i64 (Pi : Int))) w.heap.size 49 #[.int .i64 0, .int .i64 0] := kf2.other hbne
     have hB3 : Below w.heap.size w (W2.setCell ⟨bf, 1, none⟩ (.int .i64 (Pi : Int))) := hB2.setCell hble _
     have HQ3 := Lib.hid kq3
     have HF3 := Lib.hid kf3
     have HB3 := Lib.hid hB3
     clear h2 hn kq kf2 HKF HNK HP2 hB2 hq0 hPi hc kq3 kf3 hB3 hsl
     go_upto_region 20 with fail
     generalize W2.setCell ⟨bf, 1, none⟩ (.int .i64 (Pi : Int)) = W3 at *
     clear k0 k1 ci fz1
     have k0 : W3.cell? ⟨bf, 0, none⟩ = some (.int .i64 q) := HQ3.out.cell 0
     have k1 : W3.cell? ⟨bf, 1, none⟩ = some (.int .i64 (Pi : Int)) := HQ3.out.cell 1
     have q0 : W3.cell? ⟨w.heap.size, 0, none⟩ = some (.int .i64 0) := HF3.out.cell 0
     have q1 : W3.cell? ⟨w.heap.size, 1, none⟩ = some (.int .i64 0) := HF3.out.cell 1
     have q2 := HF3.out.frozen 0
     have q3 := HF3.out.frozen 1
     obtain ⟨⟨p0, p1⟩, p2, p3, p4⟩ := put2 HF3.out HB3.out (Nat.le_refl _) q (Pi : Int)
     have P2 := Lib.hid p2
     have P3 := Lib.hid p3
     have P4 := Lib.hid p4
     clear p2 p3 p4
     go_region
     go_wp2
     exact bodyPost_ret (v := .tuple #[.slice none 0 0, .agg #[.int .i64 q, .int .i64 (Pi : Int)]]) (by simp [results, Tryz.results41, go_sem, P2.out, P3.out]) rfl (by rw [HRE.out]; exact ⟨_, _, _, rfl, P4.out.drew, rfl, rfl, rfl⟩)
end
section
open Go.RowKit Go.Deep Sv
noncomputable def bothF (s : ByteArray) : Option (List Ln × List It) := if 1500 < s.size then none else match parseF s with
 | .error _ => none
 | .ok r => some r
theorem bothF_new {s : ByteArray} {ls : List Ln} {its : List It} (h : bothF s = some (ls, its)) : newF ls = .ok its := by
 unfold bothF at h
 split at h
 ·cases h
 ·split at h
  ·cases h
  ·rename_i r hr
   cases h
   exact parseF_ok hr
def BothRes (w : World) (r : Option (List Ln × List It)) (e : Ending) (w' : World) : Prop :=
 match r with
 | none => e = .returned (.tuple #[.pointer none, .slice none 0 0, .bool false]) /\ Below w.heap.size w w'
 | some (ls, its) => ∃ bc v, e = .returned (.tuple #[.pointer (some ⟨bc, 0, none⟩), v, .bool true]) /\ CatAt w' bc ls its /\ RLs w' v ls /\ Below w.heap.size w w'
theorem plF_errB : ∀ (l : List (Nat × ByteArray)) (acc : List (Nat × Ln)) (q : Int) (i : Nat), plF l acc = .error (q, i) -> q ≠ 0 := by
 intro l
 induction l with
 | nil => intro acc q i h; cases h
 | cons x r ih =>
  intro acc q i h
  unfold plF at h
  split at h
  ·rename_i e he
   obtain ⟨e1, e2⟩ := e
   cases h
   exact lineF_err he
  ·exact ih _ _ _ h
theorem parseF_errB {s : ByteArray} {q : Int} {o : Option Nat} (h : parseF s = .error (q, o)) : q ≠ 0 := by
 unfold parseF at h
 split at h
 ·cases h; decide
 ·split at h
  ·rename_i e he
   obtain ⟨e1, e2⟩ := e
   cases h
   exact plF_errB _ _ _ _ he
  ·split at h
   ·rename_i he; cases h; exact newF_err he
   ·rename_i he; cases h; exact newF_err he
   ·cases h
theorem both_c (s : ByteArray) (w : World) (hw : Lw w) (hF : FineR w) (ad : Addr) (cap : Nat) (hK : KindsAt w ad cap) : Calls Tryz.prog 11 #[.string s] w (BothRes w (bothF s)) := by
 by_cases hs : 1500 < s.size
 ·have hf : bothF s = none := by unfold bothF; rw [if_pos hs]
  have a1 : (1500 : Int) < (s.size : Int) := by omega
  rw [hf]
  clear hs hf hw hF hK
  go_enter Tryz.func11, Tryz.ntmps11
  go_wp2
  refine bodyPost_ret (v := .tuple #[.pointer none, .slice none 0 0, .bool false]) (by simp [results, Tryz.f11, go_sem]) rfl ?_
  exact ⟨rfl, Below.refl _ _⟩
 ·have a1 : ¬ (1500 : Int) < (s.size : Int) := by omega
  have HQ0 := rcatp_any s w hw.lb hF ad cap hK
  have HP0 : ∀ W, Below w.heap.size w W -> Calls Tryz.prog 42 #[.string s] W (ParRes W (parseF s)) := fun W hb => parse_any_c s W (hw.below hb)
  cases hx : parseF s with
  | error e =>
   obtain ⟨q, o⟩ := e
   have hf : bothF s = none := by unfold bothF; rw [if_neg hs, hx]
   have hq := parseF_errB hx
   have hq1 : (q == 0) = false := by rw [beq_eq_false_iff_ne]; exact hq
   rw [hx] at HQ0
   rw [hf]
   have HQ := Lib.hid HQ0
   clear HQ0 HP0 hw hF hK hx hf hs hq
   generalize hPO : placeO o = PO at *
   have HPO := Lib.hid hPO
   clear hPO
   go_enter Tryz.func11, Tryz.ntmps11
   go_wp2_with fail
   refine HQ.out.mono ?_
   rintro e w1 ⟨v, k, p, rfl, hb1, hv, hk, hp⟩
   rw [hv, hk, hp, HPO.out]
   clear hv hk hp
   have hA : Below w1.heap.size w1 (w1.alloc (.cells #[.int .i64 q, .int .i64 PO] 49)) := (Below.refl _ _).alloc (Nat.le_refl _) _
   have kf := Blk.new w1 49 #[.int .i64 q, .int .i64 PO]
   have HB1 : Hid (Below w.heap.size w (w1.alloc (.cells #[.int .i64 q, .int .i64 PO] 49))) := hb1.trans (hA.mono hb1.size)
   clear hA hb1 HQ
   go_upto_region 4 with fail
   generalize w1.alloc (.cells #[.int .i64 q, .int .i64 PO] 49) = W1 at *
   generalize w1.heap.size = bf at *
   have c0 : W1.cell? ⟨bf, 0, none⟩ = some (.int .i64 q) := kf.cell 0
   clear kf
   go_wp2
   refine bodyPost_ret (v := .tuple #[.pointer none, .slice none 0 0, .bool false]) (by simp [results, Tryz.f11, go_sem]) rfl ?_
   exact ⟨rfl, HB1.out⟩
  | ok r =>
   obtain ⟨ls, its⟩ := r
   have hf : bothF s = some (ls, its) := by unfold bothF; rw [if_neg hs, hx]
   rw [hx] at HQ0 HP0
   rw [hf]
   have HQ := Lib.hid HQ0
   have HP := Lib.hid HP0
   clear HQ0 HP0 hw hF hK hx hf hs
   go_enter Tryz.func11, Tryz.ntmps11
   go_wp2_with fail
   refine HQ.out.mono ?_
   rintro e w1 ⟨v, k, p, rfl, hb1, hv, hk, hp⟩
   rw [hk, hp]
   clear hk hp
   have hA : Below w1.heap.size w1 (w1.alloc (.cells #[.int .i64 0, .int .i64 (-1)] 49)) := (Below.refl _ _).alloc (Nat.le_refl _) _
   have kf := Blk.new w1 49 #[.int .i64 0, .int .i64 (-1)]
   have HB1 : Hid (Below w.heap.size w (w1.alloc (.cells #[.int .i64 0, .int .i64 (-1)] 49))) := hb1.trans (hA.mono hb1.size)
   have HV1 := Lib.hid (hv.below hA (Nat.le_refl _))
   obtain ⟨va, vc, rfl⟩ : ∃ va vc, v = .slice va ls.length vc := by obtain ⟨vs, _, h2⟩ := hv; obtain ⟨a, c, e, _⟩ := h2.form; exact ⟨a, c, e⟩
   clear hA hb1 HQ hv
   go_upto_region 4 with fail
   generalize w1.alloc (.cells #[.int .i64 0, .int .i64 (-1)] 49) = W1 at *
   generalize w1.heap.size = bf at *
   have c0 : W1.cell? ⟨bf, 0, none⟩ = some (.int .i64 0) := kf.cell 0
   clear kf
   go_wp2_with fail
   refine (HP.out _ HB1.out).mono ?_
   rintro e w2 ⟨bc, vs, rfl, hcv, -, hb2⟩
   have HB2 : Hid (Below w.heap.size w w2) := HB1.out.trans (hb2.mono HB1.out.size)
   have HV2 := Lib.hid (HV1.out.below hb2 (Nat.le_refl _))
   have HC2 := Lib.hid hcv.cat
   clear hcv hb2 HP HB1 HV1 c0
   go_wp2
   refine bodyPost_ret (v := .tuple #[.pointer (some ⟨bc, 0, none⟩), .slice va ls.length vc, .bool true]) (by simp [results, Tryz.f11, go_sem]) rfl ?_
   exact ⟨bc, _, rfl, HC2.out, HV2.out, HB2.out⟩
end
section
open Go.RowKit Go.Deep Sv
theorem pfits_none (s : ByteArray) (set : Nat) (w : World) (hw : Lw w) (hF : FineR w) (ad : Addr) (cap : Nat) (hK : KindsAt w ad cap) (h : bothF s = none) : Calls Tryz.prog 6 #[.string s, .int .u64 (set : Int)] w fun r w' => r = .returned (.bool true) /\ Below w.heap.size w w' := by
 have HB0 := both_c s w hw hF ad cap hK
 rw [h] at HB0
 have HB : Hid (Calls Tryz.prog 11 #[.string s] w fun e w' => e = .returned (.tuple #[.pointer none, .slice none 0 0, .bool false]) /\ Below w.heap.size w w') := HB0
 clear HB0 hw hF hK h
 go_enter Tryz.func6, Tryz.ntmps6
 go_wp2_with fail
 refine HB.out.mono ?_
 rintro e w1 ⟨rfl, hb1⟩
 have HB1 := Lib.hid hb1
 clear hb1 HB
 go_wp2
 go_ret
 exact ⟨rfl, HB1.out⟩
theorem pfits_some (s : ByteArray) (set : Nat) (hs : set < 18446744073709551616) (w : World) (hw : Lw w) (hF : FineR w) (ad : Addr) (cap : Nat) (hK : KindsAt w ad cap) (ls : List Ln) (its : List It) (h : bothF s = some (ls, its)) : Calls Tryz.prog 6 #[.string s, .int .u64 (set : Int)] w fun r w' => r = .returned (.bool true) /\ Below w.heap.size w w' := by
 have hN := bothF_new h
 have HB0 := both_c s w hw hF ad cap hK
 rw [h] at HB0
 have HB : Hid (Calls Tryz.prog 11 #[.string s] w fun e w' => ∃ bc v, e = .returned (.tuple #[.pointer (some ⟨bc, 0, none⟩), v, .bool true]) /\ CatAt w' bc ls its /\ RLs w' v ls /\ Below w.heap.size w w') := HB0
 have HR : Hid (∀ W v, RLs W v ls -> Calls Tryz.prog 30 #[v, .int .u64 (set : Int)] W fun e w' => e = .returned (.tuple #[.bool (fitsF its ls set).1, .int .i64 (fitsF its ls set).2]) /\ Below W.heap.size W w') := fun W v hv => rfits_any ls its hN set v W hv
 have HP : Hid (∀ W bk, CatAt W bk ls its -> Calls Tryz.prog 31 #[.pointer (some ⟨bk, 0, none⟩), .int .u64 (set : Int)] W fun e w' => e = .returned (.tuple #[.bool (fitsF its ls set).1, .int .i64 (fitsF its ls set).2]) /\ Below W.heap.size W w') := fun W bk hc => fits_c bk ls its hN set W hc hs
 generalize (fitsF its ls set).1 = fb at *
 generalize (fitsF its ls set).2 = fk at *
 clear HB0 hw hF hK h hN
 go_enter Tryz.func6, Tryz.ntmps6
 go_wp2_with fail
 refine HB.out.mono ?_
 rintro e w1 ⟨bc, v, rfl, hcat, hrl, hb1⟩
 obtain ⟨va, vc, rfl⟩ : ∃ a c, v = .slice a ls.length c := by obtain ⟨vs', _, h2⟩ := hrl; obtain ⟨a, c, e, _⟩ := h2.form; exact ⟨a, c, e⟩
 have HR1 := Lib.hid (HR.out w1 _ hrl)
 have HCAT := Lib.hid hcat
 have HB1 := Lib.hid hb1
 clear hb1 hcat hrl HB HR
 go_wp2_with fail
 refine HR1.out.mono ?_
 rintro e w2 ⟨rfl, hb2⟩
 have HP2 := Lib.hid (HP.out w2 bc (HCAT.out.below hb2 (Nat.le_refl _)))
 have HB2 : Hid (Below w.heap.size w w2) := HB1.out.trans (hb2.mono HB1.out.size)
 clear hb2 HB1 HR1 HP HCAT
 go_wp2_with fail
 refine HP2.out.mono ?_
 rintro e w3 ⟨rfl, hb3⟩
 have HB3 : Hid (Below w.heap.size w w3) := HB2.out.trans (hb3.mono HB2.out.size)
 have hbb : (fb == fb) = true := by simp
 clear hb3 HB2 HP2
 go_wp2
 go_ret
 exact ⟨by first | rfl | simp, HB3.out⟩
theorem pfits_any (s : ByteArray) (set : Nat) (hs : set < 18446744073709551616) (w : World) (hw : Lw w) (hF : FineR w) (ad : Addr) (cap : Nat) (hK : KindsAt w ad cap) : Calls Tryz.prog 6 #[.string s, .int .u64 (set : Int)] w fun r w' => r = .returned (.bool true) /\ Below w.heap.size w w' := by
 cases h : bothF s with
 | none => exact pfits_none s set w hw hF ad cap hK h
 | some r => exact pfits_some s set hs w hw hF ad cap hK r.1 r.2 h
end
end Go.Proofs.YtpmpnbbihmgdpaaGreatDoor
