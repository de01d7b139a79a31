/- Only, the walk. -/
import Derived.Test.YtmhophccdfmngaaGreatDoorClinesL
import Derived.Test.YtmhophccdfmngaaGreatDoorCtParse
import Derived.Test.YtmhophccdfmngaaGreatDoorCtOf
import Derived.Test.YtmhophccdfmngaaGreatDoorRlLineA
set_option maxHeartbeats 4000000
set_option maxRecDepth 100000
namespace Go.Proofs.YtmhophccdfmngaaGreatDoor
section
open Go.RowKit Go.Deep Go.Shelf Sv
theorem gathF_err : ∀ (ls : List Ln) (i : Nat) (its : List It) (k : Int) (j : Nat), gathF ls i its = .error (k, j) -> k ≠ 0 := by
 intro ls
 induction ls with
 | nil => intro i its k j h; cases h
 | cons x r ih =>
  intro i its k j h
  unfold gathF at h
  split at h
  ·rename_i hz; cases h; exact hz
  ·split at h
   ·split at h
    ·cases h; decide
    ·split at h
     ·cases h; decide
     ·exact ih _ _ _ _ h
   ·exact ih _ _ _ _ h
theorem newF_err {ls : List Ln} {q : Int} {o : Option Nat} (h : newF ls = .error (q, o)) : q ≠ 0 := by
 unfold newF at h
 split at h
 ·cases h; decide
 ·split at h
  ·rename_i e he
   obtain ⟨e1, e2⟩ := e
   cases h
   exact gathF_err _ _ _ _ _ he
  ·split at h
   ·cases h; decide
   ·cases h
def RcRes (w : World) (r : Except (Int × Option Nat) (List Ln × List It)) (e : Ending) (w' : World) : Prop :=
 ∃ (v : Value) (k p : Int), e = .returned (.tuple #[v, .agg #[.int .i64 k, .int .i64 p]]) /\ Below w.heap.size w w' /\ match r with
  | .ok (ls, _) => RLs w' v ls /\ k = 0 /\ p = -1
  | .error (q, o) => v = .slice none 0 0 /\ k = q /\ p = placeO o
theorem rcatp_long (s : ByteArray) (w : World) (h : 20000 < s.size) : Calls Tryz.prog 42 #[.string s] w (RcRes w (.error (4, none))) := by
 have h' : (20000 : Int) < (s.size : Int) := by omega
 have HBR := Lib.hid (refBare 4 (w.alloc (.cells #[.int .i64 0, .int .i64 0] 26)))
 have kf := Blk.new w 26 #[.int .i64 0, .int .i64 0]
 have hbf : Below w.heap.size w (w.alloc (.cells #[.int .i64 0, .int .i64 0] 26)) := (Below.refl _ w).alloc (Nat.le_refl _) _
 clear h
 go_enter Tryz.func42, Tryz.ntmps42
 go_wp2_with fail
 refine HBR.out.mono ?_
 rintro e w1 ⟨rfl, hb1⟩
 have kf1 := kf.below hb1 kf.lt
 have hB1 := hbf.trans (hb1.mono hbf.size)
 have q0 : w1.cell? ⟨w.heap.size, 0, none⟩ = some (.int .i64 0) := kf1.cell 0
 have q1 : w1.cell? ⟨w.heap.size, 1, none⟩ = some (.int .i64 0) := kf1.cell 1
 have q2 := kf1.frozen 0
 have q3 := kf1.frozen 1
 obtain ⟨⟨p0, p1⟩, p2, p3, p4⟩ := put2 kf1 hB1 (Nat.le_refl _) 4 (-1)
 have P2 := Lib.hid p2
 have P3 := Lib.hid p3
 have P4 := Lib.hid p4
 clear p2 p3 p4
 clear kf kf1 hbf hb1 HBR hB1
 go_wp2
 exact bodyPost_ret (v := .tuple #[.slice none 0 0, .agg #[.int .i64 4, .int .i64 (-1)]]) (by simp [results, Tryz.results42, go_sem, P2.out, P3.out]) rfl ⟨_, _, _, rfl, P4.out, rfl, rfl, rfl⟩
theorem piece_cell {L : List (Nat × ByteArray)} {k : Nat} (hk : k < L.length) : (((L.map (·.2)).map Value.string).toArray)[k]? = some (.string (px L k).2) := by
 rw [px_at L k hk]
 simp [hk]
def PInv (L : List (Nat × ByteArray)) (W0 : World) (lV sV aV kV : Value) (wz : World) : Prop := ∃ (k a : Nat) (acc : List (Nat × Ln)) (vs : List Value), k <= L.length /\ kV = .int .i64 (k : Int) /\ aV = .int .i64 (a : Int) /\ a <= 30000 /\ (k < L.length -> a = (px L k).1) /\ acc.length <= k /\ plF ((L.take k).filter (fun x => decide (x.2.size ≠ 0))) [] = .ok acc /\ RPS W0 wz lV sV (acc.map Prod.snd) vs (acc.map Prod.fst)
theorem rcatp_any (s : ByteArray) (w : World) (hw : Lb w) (hF : FineR w) (ad : Addr) (cap : Nat) (hK : KindsAt w ad cap) : Calls Tryz.prog 42 #[.string s] w (RcRes w (parseF s)) := by
 by_cases hs : 20000 < s.size
 ·have e : parseF s = .error (4, none) := by unfold parseF; rw [if_pos hs]
  rw [e]; exact rcatp_long s w hs
 obtain ⟨R, hR⟩ : ∃ R, parseF s = R := ⟨_, rfl⟩
 rw [hR]
 have hR2 := hR
 unfold parseF at hR2
 rw [if_neg hs, lns_cut s s.size 0 (by omega) (Nat.zero_le _)] at hR2
 have hcu := cuts_of s ⟨#[10]⟩
 have HSP := Lib.hid (split_gen s ⟨#[10]⟩ (by decide) (w.alloc (.cells #[.int .i64 0, .int .i64 0] 26)) (by omega) (hw.below ((Below.refl _ w).alloc (Nat.le_refl _) _)))
 generalize cutB s ⟨#[10]⟩ s.size 0 = L at *
 have HCU := Lib.hid hcu
 have HR := Lib.hid hR2
 have HW := Lib.hid hw
 have HFN := Lib.hid hF
 have HKD := Lib.hid hK
 have hs' : ¬ (20000 : Int) < (s.size : Int) := by omega
 have hLl := hcu.len
 have kf := Blk.new w 26 #[.int .i64 0, .int .i64 0]
 have hbf : Below w.heap.size w (w.alloc (.cells #[.int .i64 0, .int .i64 0] 26)) := (Below.refl _ w).alloc (Nat.le_refl _) _
 clear hR hR2 hcu hw hF hK
 obtain ⟨i0, hin, hz0, hz1, hz2⟩ := info_parts infoRLn
 obtain ⟨i1, hin1, hy0, hy1, hy2⟩ := info_parts infoInt
 go_enter Tryz.func42, Tryz.ntmps42
 go_wp2_with fail
 refine HSP.out.mono ?_
 rintro e W0 ⟨rfl, hpc, hb0⟩
 have HKF : Hid (Blk W0 w.heap.size 26 #[.int .i64 0, .int .i64 0]) := kf.below hb0 kf.lt
 have HPC := Lib.hid hpc
 have HB0 : Hid (Below w.heap.size w W0) := hbf.trans (hb0.mono hbf.size)
 clear kf hbf hpc hb0 HSP
 rw [World.size_alloc] at HPC
 simp only [World.size_alloc]
 go_wp2_with fail
 go_loopw [4, 5, 6, 19] (fun lV sV aV kV wz => PInv L W0 lV sV aV kV wz) (fun _ _ _ kV _ => L.length - (intOf kV).toNat)
 case atStart => exact ⟨0, 0, [], [], Nat.zero_le _, rfl, rfl, by omega, fun _ => HCU.out.first.symm, Nat.le_refl _, rfl, RPS.start _⟩
 case round =>
  obtain ⟨k, a, acc, vs, hk, rfl, rfl, ha, hak, hacl, hpl, hps⟩ := hrel
  obtain ⟨ls, hls⟩ : ∃ ls, acc.map Prod.snd = ls := ⟨_, rfl⟩
  obtain ⟨ss, hss⟩ : ∃ ss, acc.map Prod.fst = ss := ⟨_, rfl⟩
  have hl2 : ls.length <= k := by rw [<- hls, List.length_map]; exact hacl
  have hl1 : ss.length <= k := by rw [<- hss, List.length_map]; exact hacl
  rw [hls, hss] at hps
  have HLS := Lib.hid hls
  have HSS := Lib.hid hss
  clear hls hss
  obtain ⟨lva, lvc, rfl, -⟩ := (rowAt_own hps.lrow).form
  obtain ⟨sva, svc, rfl, -⟩ := (rowAt_own hps.srow).form
  by_cases hlt : k < L.length
  ·have hroom := HCU.out.room k hlt
   have hnext := HCU.out.next k
   have ea := hak hlt
   have htk := pl_take hlt hpl
   have cp : wr.cell? ⟨w.heap.size + 1, k, none⟩ = some (.string (px L k).2) := ((HPC.out.below hps.B HPC.out.lt).cell k).trans (piece_cell hlt)
   have hm : (⟨#[10]⟩ : ByteArray).size = 1 := rfl
   rw [hm] at hnext
   have HTK := Lib.hid htk
   have HPS := Lib.hid hps
   clear htk hpl hps hak hm
   obtain ⟨pl, hpl⟩ : ∃ pl, (px L k).1 = pl := ⟨_, rfl⟩
   obtain ⟨pc, hpc⟩ : ∃ pc, (px L k).2 = pc := ⟨_, rfl⟩
   rw [hpl, hpc] at hroom hnext HTK
   rw [hpl] at ea
   rw [hpc] at cp
   clear hpl hpc
   subst ea
   have hnx := Lib.hid hnext
   clear hnext
   by_cases h0 : pc.size = 0
   ·obtain rfl := bytes_empty h0
    have HT2 : Hid (plF ((L.take (k + 1)).filter (fun x => decide (x.2.size ≠ 0))) [] = .ok acc) := by have h := HTK.out; rw [if_pos (show (⟨#[]⟩ : ByteArray).size = 0 from rfl)] at h; exact h
    clear HTK h0
    clear hin hz0 hz1 hz2 hin1 hy0 hy1 hy2
    go_wp2
    go_roundw
    case rel => exact ⟨k + 1, a + 1, acc, vs, by omega, by go_num, by go_num, by omega, fun h => (hnx.out h).symm, by omega, HT2.out, by rw [HLS.out, HSS.out]; exact HPS.out⟩
    case measure => simp [intOf]; omega
   ·have he1 : pc.toList.isEmpty = false := bytes_not_empty (by omega)
    have he2 : (pc.toList == []) = false := by rw [beq_eq_false_iff_ne]; intro h; rw [h] at he1; cases he1
    have hBw := HB0.out.trans (HPS.out.B.mono HB0.out.size)
    have HLP := Lib.hid (rline_any pc wr (by omega) (HW.out.below hBw) (HFN.out.below hBw) ad cap (HKD.out.below hBw))
    rw [if_neg h0] at HTK
    clear hBw
    go_wp2_with fail
    refine HLP.out.mono ?_
    rintro e w1 ⟨x, ra, rc, q, p, rfl, hns, hrg, hnew, hb1, hok⟩
    have hps1 := HPS.out.step hb1
    have hA : Below w1.heap.size w1 ((w1.alloc (.cells #[.int .i64 x.kind, .string x.name, .int .i64 x.a, .int .i64 x.b, .int .i64 x.c, .string x.other, .slice ra (tp x.rng).length rc] 79)).alloc (.cells #[.int .i64 q, .int .i64 p] 26)) := ((Below.refl _ w1).alloc (Nat.le_refl _) _).alloc (by simp) _
    have kl := (Blk.new w1 79 #[.int .i64 x.kind, .string x.name, .int .i64 x.a, .int .i64 x.b, .int .i64 x.c, .string x.other, .slice ra (tp x.rng).length rc]).alloc (.cells #[.int .i64 q, .int .i64 p] 26)
    have kq := Blk.new (w1.alloc (.cells #[.int .i64 x.kind, .string x.name, .int .i64 x.a, .int .i64 x.b, .int .i64 x.c, .string x.other, .slice ra (tp x.rng).length rc] 79)) 26 #[.int .i64 q, .int .i64 p]
    rw [World.size_alloc] at kq
    have HP2 := Lib.hid (hps1.step hA)
    have HNS := Lib.hid (hns.below hA (Nat.le_refl _))
    have HRG := Lib.hid hrg
    have HNW := Lib.hid hnew
    have HOK := Lib.hid hok
    have HKL := Lib.hid kl
    have HKQ := Lib.hid kq
    have hwr := hb1.size
    clear hps1 hA kl kq hns hrg hnew hok hb1 HLP cp
    go_upto_region 11 with fail
    generalize (w1.alloc (.cells #[.int .i64 x.kind, .string x.name, .int .i64 x.a, .int .i64 x.b, .int .i64 x.c, .string x.other, .slice ra (tp x.rng).length rc] 79)).alloc (.cells #[.int .i64 q, .int .i64 p] 26) = W2 at *
    have k0 : W2.cell? ⟨w1.heap.size + 1, 0, none⟩ = some (.int .i64 q) := HKQ.out.cell 0
    have k1 : W2.cell? ⟨w1.heap.size + 1, 1, none⟩ = some (.int .i64 p) := HKQ.out.cell 1
    cases hlf : lineF pc with
    | error e =>
     obtain ⟨q', o⟩ := e
     have hq0 := lineF_err hlf
     have h1 := HOK.out
     have h2 := HTK.out
     rw [hlf] at h1 h2
     obtain ⟨rfl, rfl, rfl⟩ := h1
     have HRE : Hid (R = .error (q, some a)) := by show _ = _; rw [<- HR.out, pl_err h2]
     have hq1 : (q == 0) = false := by rw [beq_eq_false_iff_ne]; exact hq0
     have kf2 : Blk W2 w.heap.size 26 #[.int .i64 0, .int .i64 0] := HKF.out.below HP2.out.B HKF.out.lt
     have hB2 : Below w.heap.size w W2 := HB0.out.trans (HP2.out.B.mono HB0.out.size)
     have q0 : W2.cell? ⟨w.heap.size, 0, none⟩ = some (.int .i64 0) := kf2.cell 0
     have q1 : W2.cell? ⟨w.heap.size, 1, none⟩ = some (.int .i64 0) := kf2.cell 1
     have q2 := kf2.frozen 0
     have q3 := kf2.frozen 1
     obtain ⟨⟨p0, p1⟩, p2, p3, p4⟩ := put2 kf2 hB2 (Nat.le_refl _) q (a : Int)
     have P2 := Lib.hid p2
     have P3 := Lib.hid p3
     have P4 := Lib.hid p4
     clear p2 p3 p4
     clear hlf h2 hq0 HTK HR HOK HPS
     go_wp2_with fail
     go_region
     go_wp2
     exact bodyPost_ret (v := .tuple #[.slice none 0 0, .agg #[.int .i64 q, .int .i64 (a : Int)]]) (by simp [results, Tryz.results42, go_sem, P2.out, P3.out]) rfl (by rw [HRE.out]; exact ⟨_, _, _, rfl, P4.out.drew, rfl, rfl, rfl⟩)
    | ok y =>
     have h1 := HOK.out
     have h2 := HTK.out
     rw [hlf] at h1 h2
     obtain ⟨rfl, rfl, rfl⟩ := h1
     have HT2 : Hid (plF ((L.take (k + 1)).filter (fun x => decide (x.2.size ≠ 0))) [] = .ok (acc ++ [(a, x)])) := h2
     have d0 : W2.cell? ⟨w1.heap.size, 0, none⟩ = some (.int .i64 x.kind) := HKL.out.cell 0
     have d1 : W2.cell? ⟨w1.heap.size, 1, none⟩ = some (.string x.name) := HKL.out.cell 1
     have d2 : W2.cell? ⟨w1.heap.size, 2, none⟩ = some (.int .i64 x.a) := HKL.out.cell 2
     have d3 : W2.cell? ⟨w1.heap.size, 3, none⟩ = some (.int .i64 x.b) := HKL.out.cell 3
     have d4 : W2.cell? ⟨w1.heap.size, 4, none⟩ = some (.int .i64 x.c) := HKL.out.cell 4
     have d5 : W2.cell? ⟨w1.heap.size, 5, none⟩ = some (.string x.other) := HKL.out.cell 5
     have d6 : W2.cell? ⟨w1.heap.size, 6, none⟩ = some (.slice ra (tp x.rng).length rc) := HKL.out.cell 6
     have HROW := Lib.hid HP2.out.lrow
     have hw2 := HP2.out.B.size
     have hwr0 := HPS.out.B.size
     have HLT := Lib.hid HPS.out.lrow
     have HST := Lib.hid HPS.out.srow
     clear hlf h2 HTK HOK HPS k1 HKQ HKL
     have hb3 : Below W2.heap.size W2 (W2.alloc (.cells #[.int .i64 x.kind, .string x.name, .int .i64 x.a, .int .i64 x.b, .int .i64 x.c, .string x.other, .slice ra (tp x.rng).length rc] 79)) := (Below.refl _ _).alloc (Nat.le_refl _) _
     have HP3 := Lib.hid (HP2.out.step hb3)
     have HNS3 := Lib.hid (HNS.out.below hb3 (Nat.le_refl _))
     clear hb3
     go_wp2_with (at_builtin; refine wpList_append_own_at _ rfl _ _ 55 rfl W0.heap.size 79 i0 (.agg #[.int .i64 0, .string ⟨#[]⟩, .int .i64 0, .int .i64 0, .int .i64 0, .string ⟨#[]⟩, .slice none 0 0]) 7 88 Tryz.underlying55 hin hz0 hz1 hz2 rfl (by decide) _ _ _ rfl (HROW.out.alloc _) ⟨W2.heap.size, 0, none⟩ 1 1 [.int .i64 x.kind, .string x.name, .int .i64 x.a, .int .i64 x.b, .int .i64 x.c, .string x.other, .slice ra (tp x.rng).length rc] rfl rfl ?c1 ?c2 ?c3 ?c4 ?c5 ?_)
     case c1 => exact cell_seven_new _ _ _ _ _ _ _ _ _
     case c2 => intro u hu; simp at hu; rcases hu with rfl | rfl | rfl | rfl | rfl | rfl | rfl <;> rfl
     case c3 => unfold maxLen; omega
     case c4 => omega
     case c5 => simp; omega
     intro v4 w4 hown4 hgrow4 _ hloc4
     have hn4 : 0 < x.rng.length -> ∀ g, (Value.slice ra (tp x.rng).length rc).ownBlock = some g -> W0.heap.size <= g /\ some g ≠ (Value.slice lva ls.length lvc).ownBlock /\ some g ≠ (Value.slice sva ss.length svc).ownBlock := fun _ g hg => ⟨Nat.le_trans hwr0 (HNW.out g hg), fun e => by have h1 := HNW.out g hg; have h2 := (HLT.out.lt g e.symm).2; omega, fun e => by have h1 := HNW.out g hg; have h2 := (HST.out.lt g e.symm).2; omega⟩
     have hp4 := HP3.out.appL HNS3.out HRG.out hn4 hown4 hgrow4 (by rw [World.size_alloc]; exact hloc4)
     obtain ⟨v4a, v4c, rfl, -⟩ := (rowAt_own hp4.lrow).form
     have HP4 := Lib.hid hp4
     have HROW4 := Lib.hid hp4.srow
     have hw4 := hp4.B.size
     have hb5 : Below w4.heap.size w4 (w4.alloc (.cells #[.int .i64 (a : Int)] 3)) := (Below.refl _ _).alloc (Nat.le_refl _) _
     have HP5 := Lib.hid (hp4.step hb5)
     clear hown4 hgrow4 hloc4 hn4 hp4 hb5 HROW HP3 HP2 HNS HNS3 HRG HNW HLT HST d0 d1 d2 d3 d4 d5 d6
     go_wp2_with (at_builtin; refine wpList_append_own_at _ rfl _ _ 22 rfl W0.heap.size 3 i1 (.int .i64 0) 1 8 Tryz.underlying22 hin1 hy0 hy1 hy2 rfl (by decide) _ _ _ rfl (HROW4.out.alloc _) ⟨w4.heap.size, 0, none⟩ 1 1 [.int .i64 (a : Int)] rfl rfl ?a1 ?a2 ?a3 ?a4 ?a5 ?_)
     case a1 => exact cell_lit _ _ _
     case a2 => exact one_lit _
     case a3 => unfold maxLen; omega
     case a4 => omega
     case a5 => simp; omega
     intro v6 w6 hown6 hgrow6 _ hloc6
     have HP6 := Lib.hid (HP5.out.appS (k := a) hown6 hgrow6 (by rw [World.size_alloc]; exact hloc6))
     clear hown6 hgrow6 hloc6 HP5 HP4 HROW4
     go_wp2
     go_roundw
     case rel => exact ⟨k + 1, a + pc.size + 1, acc ++ [(a, x)], vs ++ [.slice ra (tp x.rng).length rc], by omega, by go_num, by go_num, by omega, fun h => (hnx.out h).symm, by simp; omega, HT2.out, by have h := HP6.out; rw [show (ls ++ [x]).length = ls.length + 1 by simp] at h; rw [List.map_append, List.map_append, HLS.out, HSS.out]; exact h⟩
     case measure => simp [intOf]; omega
  ·obtain rfl : k = L.length := by omega
   have hfull : plF (L.filter (fun x => decide (x.2.size ≠ 0))) [] = .ok acc := by have h := hpl; rw [List.take_length] at h; exact h
   have hB0 := HB0.out.trans (hps.B.mono HB0.out.size)
   have HCC := Lib.hid (rcatc_any ls (.slice lva ls.length lvc) wr hps.rls (by omega) (HFN.out.below hB0))
   have HFU := Lib.hid hfull
   have HP1 := Lib.hid hps
   clear hpl hfull hB0 hps HCU HPC hak hlt hacl hin hz0 hz1 hz2 hin1 hy0 hy1 hy2
   obtain ⟨NK, hNK⟩ : ∃ NK, newK (newF ls) = NK := ⟨_, rfl⟩
   rw [hNK] at HCC
   go_wp2_with fail
   refine HCC.out.mono ?_
   rintro e w1 ⟨rfl, hb1⟩
   have hA : Below w1.heap.size w1 (w1.alloc (.cells #[.int .i64 NK.1, .int .i64 NK.2] 26)) := (Below.refl _ _).alloc (Nat.le_refl _) _
   have kq := Blk.new w1 26 #[.int .i64 NK.1, .int .i64 NK.2]
   have HP2 := Lib.hid ((HP1.out.step hb1).step hA)
   have HNK := Lib.hid hNK
   have hbne : w.heap.size ≠ w1.heap.size := by have h1 := HKF.out.lt; have h2 := HP1.out.B.size; have h3 := hb1.size; omega
   have hble : w.heap.size <= w1.heap.size := by have h1 := HKF.out.lt; have h2 := HP1.out.B.size; have h3 := hb1.size; omega
   clear hA hb1 HCC HP1 hNK
   go_upto_region 17 with fail
   generalize w1.alloc (.cells #[.int .i64 NK.1, .int .i64 NK.2] 26) = W2 at *
   generalize w1.heap.size = bf at *
   have kf2 : Blk W2 w.heap.size 26 #[.int .i64 0, .int .i64 0] := HKF.out.below HP2.out.B HKF.out.lt
   have hB2 : Below w.heap.size w W2 := HB0.out.trans (HP2.out.B.mono HB0.out.size)
   have k0 : W2.cell? ⟨bf, 0, none⟩ = some (.int .i64 NK.1) := kq.cell 0
   have k1 : W2.cell? ⟨bf, 1, none⟩ = some (.int .i64 NK.2) := kq.cell 1
   cases hn : newF ls with
   | ok its =>
    have h1 := HNK.out
    have h2 := HR.out
    rw [HFU.out] at h2
    simp only [HLS.out, hn] at h2
    rw [hn] at h1
    obtain rfl : (0, -1) = NK := h1
    have HRE : Hid (R = .ok (ls, its)) := h2.symm
    have hf1 := HFN.out.below hB2
    have g0 := hf1.c0
    have g1 := hf1.c1
    have q0 : W2.cell? ⟨w.heap.size, 0, none⟩ = some (.int .i64 0) := kf2.cell 0
    have q1 : W2.cell? ⟨w.heap.size, 1, none⟩ = some (.int .i64 0) := kf2.cell 1
    have q2 := kf2.frozen 0
    have q3 := kf2.frozen 1
    obtain ⟨⟨p0, p1⟩, p2, p3, p4⟩ := put2 kf2 hB2 (Nat.le_refl _) 0 (-1)
    have P2 := Lib.hid p2
    have P3 := Lib.hid p3
    have P4 := Lib.hid p4
    clear p2 p3 p4
    have HRL : Hid (RLs ((W2.setCell ⟨w.heap.size, 0, none⟩ (.int .i64 0)).setCell ⟨w.heap.size, 1, none⟩ (.int .i64 (-1))) (.slice lva ls.length lvc) ls) := HP2.out.rlsSet HKF.out.lt
    clear h2 hn hf1 kq kf2 HKF HNK HP2 hB2
    go_wp2_with fail
    go_region
    go_wp2
    exact bodyPost_ret (v := .tuple #[.slice lva ls.length lvc, .agg #[.int .i64 0, .int .i64 (-1)]]) (by simp [results, Tryz.results42, go_sem, P2.out, P3.out]) rfl (by rw [HRE.out]; exact ⟨_, _, _, rfl, P4.out.drew, HRL.out.below (Below.refl _ _).drew (Nat.le_refl _), rfl, rfl⟩)
   | error e =>
    obtain ⟨q, o⟩ := e
    have hq0 := newF_err hn
    cases o with
    | none =>
     have h1 := HNK.out
     have h2 := HR.out
     rw [HFU.out] at h2
     simp only [HLS.out, hn] at h2
     rw [hn] at h1
     obtain rfl : (q, -1) = NK := h1
     have HRE : Hid (R = .error (q, none)) := h2.symm
     have hq1 : (q == 0) = false := by rw [beq_eq_false_iff_ne]; exact hq0
     simp only at k0 k1
     have q0 : W2.cell? ⟨w.heap.size, 0, none⟩ = some (.int .i64 0) := kf2.cell 0
     have q1 : W2.cell? ⟨w.heap.size, 1, none⟩ = some (.int .i64 0) := kf2.cell 1
     have q2 := kf2.frozen 0
     have q3 := kf2.frozen 1
     obtain ⟨⟨p0, p1⟩, p2, p3, p4⟩ := put2 kf2 hB2 (Nat.le_refl _) q (-1)
     have P2 := Lib.hid p2
     have P3 := Lib.hid p3
     have P4 := Lib.hid p4
     clear p2 p3 p4
     clear h2 hn kq kf2 HKF HNK HP2 hB2 hq0
     go_wp2_with fail
     go_region
     go_wp2
     exact bodyPost_ret (v := .tuple #[.slice none 0 0, .agg #[.int .i64 q, .int .i64 (-1)]]) (by simp [results, Tryz.results42, go_sem, P2.out, P3.out]) rfl (by rw [HRE.out]; exact ⟨_, _, _, rfl, P4.out.drew, rfl, rfl, rfl⟩)
    | some i =>
     have hil := newF_lt hn
     have h1 := HNK.out
     have h2 := HR.out
     rw [HFU.out] at h2
     simp only [HLS.out, HSS.out, hn] at h2
     rw [hn] at h1
     obtain rfl : (q, (i : Int)) = NK := h1
     have hq1 : (q == 0) = false := by rw [beq_eq_false_iff_ne]; exact hq0
     have hsl : ss.length = ls.length := by rw [<- HLS.out, <- HSS.out, List.length_map, List.length_map]
     have his : i < ss.length := by omega
     obtain ⟨g, cap', e1, hg, hc⟩ := (rowAt_own HP2.out.srow).cells (by omega)
     simp at e1
     obtain ⟨rfl, rfl⟩ := e1
     obtain ⟨Pi, hPi⟩ : ∃ Pi, ss.getD i 0 = Pi := ⟨_, rfl⟩
     have ci : W2.cell? ⟨g, i, none⟩ = some (.int .i64 (Pi : Int)) := hc i _ (by rw [<- hPi]; simp [icells, his])
     rw [hPi] at h2
     have HRE : Hid (R = .error (q, some Pi)) := h2.symm
     simp only at k0 k1
     have fz1 := kq.frozen 1
     have kq3 : Blk (W2.setCell ⟨bf, 1, none⟩ (.int .i64 (Pi : Int))) bf 26 #[.int .i64 q, .int .i64 (Pi : Int)] := kq.set (i := 1)
     have kf3 : Blk (W2.setCell ⟨bf, 1, none⟩ (.int .i64 (Pi : Int))) w.heap.size 26 #[.int .i64 0, .int .i64 0] := kf2.other hbne
     have hB3 : Below w.heap.size w (W2.setCell ⟨bf, 1, none⟩ (.int .i64 (Pi : Int))) := hB2.setCell hble _
     have HQ3 := Lib.hid kq3
     have HF3 := Lib.hid kf3
     have HB3 := Lib.hid hB3
     clear h2 hn kq kf2 HKF HNK HP2 hB2 hq0 hPi hc kq3 kf3 hB3 hsl
     go_upto_region 20 with fail
     generalize W2.setCell ⟨bf, 1, none⟩ (.int .i64 (Pi : Int)) = W3 at *
     clear k0 k1 ci fz1
     have k0 : W3.cell? ⟨bf, 0, none⟩ = some (.int .i64 q) := HQ3.out.cell 0
     have k1 : W3.cell? ⟨bf, 1, none⟩ = some (.int .i64 (Pi : Int)) := HQ3.out.cell 1
     have q0 : W3.cell? ⟨w.heap.size, 0, none⟩ = some (.int .i64 0) := HF3.out.cell 0
     have q1 : W3.cell? ⟨w.heap.size, 1, none⟩ = some (.int .i64 0) := HF3.out.cell 1
     have q2 := HF3.out.frozen 0
     have q3 := HF3.out.frozen 1
     obtain ⟨⟨p0, p1⟩, p2, p3, p4⟩ := put2 HF3.out HB3.out (Nat.le_refl _) q (Pi : Int)
     have P2 := Lib.hid p2
     have P3 := Lib.hid p3
     have P4 := Lib.hid p4
     clear p2 p3 p4
     go_region
     go_wp2
     exact bodyPost_ret (v := .tuple #[.slice none 0 0, .agg #[.int .i64 q, .int .i64 (Pi : Int)]]) (by simp [results, Tryz.results42, go_sem, P2.out, P3.out]) rfl (by rw [HRE.out]; exact ⟨_, _, _, rfl, P4.out.drew, rfl, rfl, rfl⟩)
end
section
open Go.RowKit Go.Deep Sv
theorem gathF_24 : ∀ (ls : List Ln) (i : Nat) (its out : List It), its.length <= 24 -> gathF ls i its = .ok out -> out.length <= 24 /\ ∀ x ∈ ls, ctCheck x = 0
 | [], i, its, out, h0, h => by cases h; exact ⟨h0, fun x hx => by cases hx⟩
 | x :: r, i, its, out, h0, h => by
  rw [gathF] at h
  split at h
  ·cases h
  ·rename_i hc
   have hc' : ctCheck x = 0 := Decidable.not_not.1 hc
   have key : ∀ its', its'.length <= 24 -> gathF r (i + 1) its' = .ok out -> out.length <= 24 /\ ∀ y ∈ x :: r, ctCheck y = 0 := fun its' h1 h2 => by
    obtain ⟨g1, g2⟩ := gathF_24 r (i + 1) its' out h1 h2
    exact ⟨g1, fun y hy => by rcases List.mem_cons.1 hy with rfl | hy; exact hc'; exact g2 y hy⟩
   split at h
   ·split at h
    ·cases h
    ·split at h
     ·cases h
     ·rename_i h8
      exact key _ (by simp; omega) h
   ·exact key _ h0 h
theorem newF_ok {ls : List Ln} {its : List It} (h : newF ls = .ok its) : its.length <= 24 /\ ls.length <= 100 /\ ∀ x ∈ ls, ctCheck x = 0 := by
 unfold newF at h
 split at h
 ·cases h
 ·split at h
  ·cases h
  ·rename_i its' hg
   split at h
   ·cases h
   ·cases h
    obtain ⟨h1, h2⟩ := gathF_24 ls 0 [] its' (by simp) hg
    refine ⟨?_, by omega, h2⟩
    unfold sortF
    rw [List.length_mergeSort]
    exact h1
theorem parseF_ok {s : ByteArray} {ls : List Ln} {its : List It} (h : parseF s = .ok (ls, its)) : newF ls = .ok its := by
 unfold parseF at h
 split at h
 ·cases h
 ·split at h
  ·cases h
  ·split at h
   ·cases h
   ·cases h
   ·rename_i hn
    cases h
    exact hn
theorem check_names {x : Ln} (h : ctCheck x = 0) : x.name.size <= 100000 /\ x.other.size <= 100000 := by
 unfold ctCheck at h
 split at h
 ·cases h
 ·split at h
  ·cases h
  ·rename_i h5
   split at h
   ·cases h
   ·rename_i h6
    have hn : NameOk x.name := by
     apply Classical.byContradiction
     intro hc
     exact h5 (Or.inl hc)
    refine ⟨by have := hn.len; omega, ?_⟩
    by_cases hp : x.pair
    ·have ho : NameOk x.other := by
      apply Classical.byContradiction
      intro hc
      exact h5 (Or.inr ⟨hp, hc⟩)
     have := ho.len; omega
    ·have : x.other.size = 0 := by
      apply Classical.byContradiction
      intro hc
      exact h6 ⟨hp, hc⟩
     omega
end
section
open Go.RowKit Go.Deep Sv
noncomputable def bothF (s : ByteArray) : Option (List Ln × List It) := if 1500 < s.size then none else match parseF s with
 | .error _ => none
 | .ok r => some r
theorem bothF_new {s : ByteArray} {ls : List Ln} {its : List It} (h : bothF s = some (ls, its)) : newF ls = .ok its := by
 unfold bothF at h
 split at h
 ·cases h
 ·split at h
  ·cases h
  ·rename_i r hr
   cases h
   exact parseF_ok hr
def BothRes (w : World) (r : Option (List Ln × List It)) (e : Ending) (w' : World) : Prop :=
 match r with
 | none => e = .returned (.tuple #[.pointer none, .slice none 0 0, .bool false]) /\ Below w.heap.size w w'
 | some (ls, its) => ∃ bc v, e = .returned (.tuple #[.pointer (some ⟨bc, 0, none⟩), v, .bool true]) /\ CatAt w' bc ls its /\ RLs w' v ls /\ Below w.heap.size w w'
theorem plF_errB : ∀ (l : List (Nat × ByteArray)) (acc : List (Nat × Ln)) (q : Int) (i : Nat), plF l acc = .error (q, i) -> q ≠ 0 := by
 intro l
 induction l with
 | nil => intro acc q i h; cases h
 | cons x r ih =>
  intro acc q i h
  unfold plF at h
  split at h
  ·rename_i e he
   obtain ⟨e1, e2⟩ := e
   cases h
   exact lineF_err he
  ·exact ih _ _ _ h
theorem parseF_errB {s : ByteArray} {q : Int} {o : Option Nat} (h : parseF s = .error (q, o)) : q ≠ 0 := by
 unfold parseF at h
 split at h
 ·cases h; decide
 ·split at h
  ·rename_i e he
   obtain ⟨e1, e2⟩ := e
   cases h
   exact plF_errB _ _ _ _ he
  ·split at h
   ·rename_i he; cases h; exact newF_err he
   ·rename_i he; cases h; exact newF_err he
   ·cases h
theorem both_c (s : ByteArray) (w : World) (hw : Lw w) (hF : FineR w) (ad : Addr) (cap : Nat) (hK : KindsAt w ad cap) : Calls Tryz.prog 48 #[.string s] w (BothRes w (bothF s)) := by
 by_cases hs : 1500 < s.size
 ·have hf : bothF s = none := by unfold bothF; rw [if_pos hs]
  have a1 : (1500 : Int) < (s.size : Int) := by omega
  rw [hf]
  clear hs hf hw hF hK
  go_enter Tryz.func48, Tryz.ntmps48
  go_wp2
  refine bodyPost_ret (v := .tuple #[.pointer none, .slice none 0 0, .bool false]) (by simp [results, Tryz.f48, go_sem]) rfl ?_
  exact ⟨rfl, Below.refl _ _⟩
 ·have a1 : ¬ (1500 : Int) < (s.size : Int) := by omega
  have HQ0 := rcatp_any s w hw.lb hF ad cap hK
  have HP0 : ∀ W, Below w.heap.size w W -> Calls Tryz.prog 43 #[.string s] W (ParRes W (parseF s)) := fun W hb => parse_any_c s W (hw.below hb)
  cases hx : parseF s with
  | error e =>
   obtain ⟨q, o⟩ := e
   have hf : bothF s = none := by unfold bothF; rw [if_neg hs, hx]
   have hq := parseF_errB hx
   have hq1 : (q == 0) = false := by rw [beq_eq_false_iff_ne]; exact hq
   rw [hx] at HQ0
   rw [hf]
   have HQ := Lib.hid HQ0
   clear HQ0 HP0 hw hF hK hx hf hs hq
   generalize hPO : placeO o = PO at *
   have HPO := Lib.hid hPO
   clear hPO
   go_enter Tryz.func48, Tryz.ntmps48
   go_wp2_with fail
   refine HQ.out.mono ?_
   rintro e w1 ⟨v, k, p, rfl, hb1, hv, hk, hp⟩
   rw [hv, hk, hp, HPO.out]
   clear hv hk hp
   have hA : Below w1.heap.size w1 (w1.alloc (.cells #[.int .i64 q, .int .i64 PO] 26)) := (Below.refl _ _).alloc (Nat.le_refl _) _
   have kf := Blk.new w1 26 #[.int .i64 q, .int .i64 PO]
   have HB1 : Hid (Below w.heap.size w (w1.alloc (.cells #[.int .i64 q, .int .i64 PO] 26))) := hb1.trans (hA.mono hb1.size)
   clear hA hb1 HQ
   go_upto_region 4 with fail
   generalize w1.alloc (.cells #[.int .i64 q, .int .i64 PO] 26) = W1 at *
   generalize w1.heap.size = bf at *
   have c0 : W1.cell? ⟨bf, 0, none⟩ = some (.int .i64 q) := kf.cell 0
   clear kf
   go_wp2
   refine bodyPost_ret (v := .tuple #[.pointer none, .slice none 0 0, .bool false]) (by simp [results, Tryz.f48, go_sem]) rfl ?_
   exact ⟨rfl, HB1.out⟩
  | ok r =>
   obtain ⟨ls, its⟩ := r
   have hf : bothF s = some (ls, its) := by unfold bothF; rw [if_neg hs, hx]
   rw [hx] at HQ0 HP0
   rw [hf]
   have HQ := Lib.hid HQ0
   have HP := Lib.hid HP0
   clear HQ0 HP0 hw hF hK hx hf hs
   go_enter Tryz.func48, Tryz.ntmps48
   go_wp2_with fail
   refine HQ.out.mono ?_
   rintro e w1 ⟨v, k, p, rfl, hb1, hv, hk, hp⟩
   rw [hk, hp]
   clear hk hp
   have hA : Below w1.heap.size w1 (w1.alloc (.cells #[.int .i64 0, .int .i64 (-1)] 26)) := (Below.refl _ _).alloc (Nat.le_refl _) _
   have kf := Blk.new w1 26 #[.int .i64 0, .int .i64 (-1)]
   have HB1 : Hid (Below w.heap.size w (w1.alloc (.cells #[.int .i64 0, .int .i64 (-1)] 26))) := hb1.trans (hA.mono hb1.size)
   have HV1 := Lib.hid (hv.below hA (Nat.le_refl _))
   obtain ⟨va, vc, rfl⟩ : ∃ va vc, v = .slice va ls.length vc := by obtain ⟨vs, _, h2⟩ := hv; obtain ⟨a, c, e, _⟩ := h2.form; exact ⟨a, c, e⟩
   clear hA hb1 HQ hv
   go_upto_region 4 with fail
   generalize w1.alloc (.cells #[.int .i64 0, .int .i64 (-1)] 26) = W1 at *
   generalize w1.heap.size = bf at *
   have c0 : W1.cell? ⟨bf, 0, none⟩ = some (.int .i64 0) := kf.cell 0
   clear kf
   go_wp2_with fail
   refine (HP.out _ HB1.out).mono ?_
   rintro e w2 ⟨bc, vs, rfl, hcv, -, hb2⟩
   have HB2 : Hid (Below w.heap.size w w2) := HB1.out.trans (hb2.mono HB1.out.size)
   have HV2 := Lib.hid (HV1.out.below hb2 (Nat.le_refl _))
   have HC2 := Lib.hid hcv.cat
   clear hcv hb2 HP HB1 HV1 c0
   go_wp2
   refine bodyPost_ret (v := .tuple #[.pointer (some ⟨bc, 0, none⟩), .slice va ls.length vc, .bool true]) (by simp [results, Tryz.f48, go_sem]) rfl ?_
   exact ⟨bc, _, rfl, HC2.out, HV2.out, HB2.out⟩
end
section
open Go.RowKit Go.Deep Sv
theorem only_c (B : Nat) (n : Int) (P : List (Int × List Int)) (cv fv : Value) (bs : List Bool) (la : Option Addr) (lc : Nat) (w : World) (hr : RS B w cv fv (P.map Prod.snd) (P.map Prod.fst)) (hb : BoolsIn w la bs) (hP : P.length <= 10000) (hc : ∀ x ∈ P, x.2.length <= 1000) :
  Calls Tryz.prog 53 #[.agg #[.int .i64 n, cv, fv], .slice la bs.length lc] w fun e w' => ∃ v', e = .returned v' /\ CO w.heap.size w' v' (ctOnly P bs) /\ Below w.heap.size w w' := by
 obtain ⟨ca, cc, rfl, -⟩ : ∃ a c, cv = .slice a P.length c /\ True := by obtain ⟨cs, h1, _⟩ := hr.crow; obtain ⟨a, c, e, _⟩ := (rowAt_own h1).form; exact ⟨a, c, by simpa using e, trivial⟩
 obtain ⟨fa, fc, rfl, -⟩ : ∃ a c, fv = .slice a P.length c /\ True := by obtain ⟨a, c, e, _⟩ := (rowAt_own hr.frow).form; exact ⟨a, c, by simpa using e, trivial⟩
 obtain ⟨ic, hic, hc0', hc1', hc2'⟩ := info_parts infoCls
 have hb1 := below_new w (.cells #[.int .i64 n, .slice ca P.length cc, .slice fa P.length fc] 97)
 have hb2 := below_new (w.alloc (.cells #[.int .i64 n, .slice ca P.length cc, .slice fa P.length fc] 97)) (.cells #[.slice la bs.length lc] 90)
 have k2 := (Blk.new w 97 #[.int .i64 n, .slice ca P.length cc, .slice fa P.length fc]).alloc (.cells #[.slice la bs.length lc] 90)
 have k3 := Blk.new (w.alloc (.cells #[.int .i64 n, .slice ca P.length cc, .slice fa P.length fc] 97)) 90 #[.slice la bs.length lc]
 rw [World.size_alloc] at k3
 have hbb := hb1.trans (hb2.mono hb1.size)
 have HR := Lib.hid ((hr.new hb1).new hb2)
 have HBO := Lib.hid (hb.below hbb (Nat.le_refl _))
 have HBB := Lib.hid hbb
 have HC := Lib.hid hc
 have HEND : Hid (onlyP P bs P.length = ctOnly P bs) := by show _ = _; unfold onlyP; rw [List.take_length]
 generalize ctOnly P bs = RES at *
 clear hb1 hb2 hr hb hbb hc
 go_enter Tryz.func53, Tryz.ntmps53
 go_upto_region 1 with fail
 generalize (w.alloc (.cells #[.int .i64 n, .slice ca P.length cc, .slice fa P.length fc] 97)).alloc (.cells #[.slice la bs.length lc] 90) = W0 at *
 have c1 : W0.cell? ⟨w.heap.size, 1, none⟩ = some (.slice ca P.length cc) := k2.cell 1
 go_wp2_with fail
 go_loopw [6, 13] (fun oV iV wr => ∃ (i : Nat), i <= P.length /\ iV = .int .i64 (i : Int) /\ CO W0.heap.size wr oV (onlyP P bs i) /\ Below W0.heap.size W0 wr) (fun _ iV _ => P.length - (intOf iV).toNat)
 case atStart => exact ⟨0, Nat.zero_le _, rfl, ⟨[], World.ownsRow_nil _ _ _ _, ClsK.nil⟩, Below.refl _ _⟩
 case round =>
  obtain ⟨i, hil, rfl, hco, hbw⟩ := hrel
  obtain ⟨ca0, cc0, rfl, -⟩ : ∃ a c, _ = Value.slice a (onlyP P bs i).length c /\ True := by obtain ⟨cs, h1, _⟩ := hco; obtain ⟨a, c, e, _⟩ := (rowAt_own h1).form; exact ⟨a, c, e, trivial⟩
  by_cases hlt : i < P.length
  ·obtain ⟨cg, cc', fg, fc', a, cap, e1, e2, q1, q2, q3, q4⟩ := (HR.out.new hbw).at i hlt
   simp at e1 e2
   obtain ⟨rfl, rfl⟩ := e1
   obtain ⟨rfl, rfl⟩ := e2
   have HSU := Lib.hid (onlyP_succ P bs i hlt)
   have hxl := HC.out (P.getD i default) (by rw [List.getD_eq_getElem?_getD, List.getElem?_eq_getElem hlt]; exact List.getElem_mem hlt)
   have hol := onlyP_len P bs i
   have k2' := k2.below hbw k2.lt
   have k3' := k3.below hbw k3.lt
   have d2 : wr.cell? ⟨w.heap.size, 2, none⟩ = some (.slice (some ⟨fg, 0, none⟩) P.length fc) := k2'.cell 2
   have d3 : wr.cell? ⟨w.heap.size + 1, 0, none⟩ = some (.slice la bs.length lc) := k3'.cell 0
   obtain ⟨f, hfe⟩ : ∃ f, (P.getD i default).1 = f := ⟨_, rfl⟩
   obtain ⟨c, hce⟩ : ∃ c, (P.getD i default).2 = c := ⟨_, rfl⟩
   rw [hfe] at q2
   rw [hce] at q1 q3 hxl
   rw [hfe, hce] at HSU
   have HTO := Lib.hid (told_c (w.heap.size + 1) la bs lc f wr d3 (HBO.out.below hbw (Nat.le_refl _)))
   have HCL := Lib.hid (clone_cl c a cap wr q4 q3 (by omega) (fun e => by cases c with | nil => rfl | cons y c => obtain ⟨ad, h, _⟩ := q3 0 (by simp); rw [e] at h; cases h))
   have HCO := Lib.hid hco
   have HBW := Lib.hid hbw
   have hws := hbw.size
   have hii0 : (0 : Int) <= (i : Int) := by omega
   have hii1 : (i : Int) < (P.length : Int) := by omega
   clear hfe hce q3 q4 k2' k3' hco hbw d3
   cases htd : ctTold bs f with
   | true =>
    rw [htd] at HTO HSU
    go_wp2_with fail
    refine HTO.out.mono ?_
    rintro e w' ⟨rfl, hw'⟩
    rw [hw']
    clear hw'
    clear w'
    clear HTO q1 q2 d2
    go_wp2_with fail
    refine HCL.out.mono ?_
    rintro e w4 ⟨a', cap', rfl, t1, t2, t3, hb4⟩
    obtain ⟨cs, hrow, hck⟩ := HCO.out.new hb4
    have HROW := Lib.hid hrow
    have HCK := Lib.hid hck
    have HT3 := Lib.hid t3
    have HB4 := Lib.hid hb4
    have hs4 := hb4.size
    clear HCL HCO hrow hck t3 hb4
    go_wp2_with (at_builtin; refine wpList_append_own_at _ rfl _ _ 93 rfl W0.heap.size 175 ic (.slice none 0 0) 1 24 Tryz.underlying93 hic hc0' hc1' hc2' rfl (by decide) _ _ _ rfl (HROW.out.alloc _) ⟨w4.heap.size, 0, none⟩ 1 1 [.slice a' c.length cap'] rfl rfl ?c1 ?c2 ?c3 ?c4 ?c5 ?_)
    case c1 => exact clit _ _ _
    case c2 => intro u hu; rw [List.mem_singleton] at hu; subst hu; rfl
    case c3 => unfold maxLen; omega
    case c4 => omega
    case c5 => simp; omega
    intro v7 w7 hown7 hgrow7 _ hloc7
    obtain ⟨hco7, hb7⟩ := CO.app (by omega) HROW.out HCK.out t1 t2 HT3.out hown7 hgrow7
    have HC7 : Hid (CO W0.heap.size w7 v7 (onlyP P bs (i + 1))) := by show CO _ _ _ _; rw [HSU.out, if_pos (by simp)]; exact hco7
    have HB7 : Hid (Below W0.heap.size W0 w7) := (HBW.out.trans (HB4.out.mono hws)).trans hb7
    clear hown7 hgrow7 hloc7 hco7 hb7 HROW HCK HT3 HB4 HSU
    go_wp2
    go_roundw
    case rel => exact ⟨i + 1, hlt, by go_num, HC7.out, HB7.out⟩
    case measure => simp [intOf]; omega
   | false =>
    rw [htd] at HTO HSU
    go_wp2_with fail
    refine HTO.out.mono ?_
    rintro e w' ⟨rfl, hw'⟩
    rw [hw']
    clear hw'
    clear w'
    have HC7 : Hid (CO W0.heap.size wr (.slice ca0 (onlyP P bs i).length cc0) (onlyP P bs (i + 1))) := by show CO _ _ _ _; rw [HSU.out, if_neg (by simp), List.append_nil]; exact HCO.out
    clear HTO q1 q2 d2 HCL HCO HSU
    go_wp2
    go_roundw
    case rel => exact ⟨i + 1, hlt, by go_num, HC7.out, HBW.out⟩
    case measure => simp [intOf]; omega
  ·obtain rfl : i = P.length := by omega
   have HCO := Lib.hid hco
   have HBW := Lib.hid hbw
   clear hco hbw
   go_wp2
   go_ret
   obtain ⟨cs, g1, g2⟩ := HCO.out
   rw [<- HEND.out]
   exact ⟨_, rfl, ⟨cs, ownsRow_base g1 HBB.out.size, g2⟩, HBB.out.trans (HBW.out.mono HBB.out.size)⟩
end
end Go.Proofs.YtmhophccdfmngaaGreatDoor
