/- No two images differ in just one byte. Plain: no memory. -/
import Derived.Test.YtcjjekhecjmaeaaGreatDoorQuads
import Derived.Test.YtcjjekhecjmaeaaGreatDoorImLays
import Derived.Test.YtcjjekhecjmaeaaGreatDoorBdErrC
import Derived.Test.YtcjjekhecjmaeaaGreatDoorImSave
set_option maxHeartbeats 4000000
set_option maxRecDepth 100000
namespace Go.Proofs.YtcjjekhecjmaeaaGreatDoor
section
open Go.RowKit Go.Maps
def LoadR (B : Nat) (l : List UInt8) (room : Int) (e : Ending) (w' : World) : Prop :=
 (∃ x, loadF l room = .error x /\ e = .returned (.tuple #[.pointer none, .int .i64 0, .iface 54 (.int .i64 x)])) \/
 ∃ (vars : Nat) (ns : List Nd) (h : Int) (s b : Nat) (O : Nat -> Prop), loadF l room = .ok (vars, ns, h) /\ e = .returned (.tuple #[.pointer (some ⟨s, 0, none⟩), .int .i64 h, .nilIface]) /\ SpaceAt B w' s b O vars room ns
theorem load_any (l : List UInt8) (hl : l.length <= 20000) (a : Option Addr) (cp : Nat) (room : Int) (w : World) (hT : Tab10 w) (n : Int) (hm : w.cell? ⟨2, 0, none⟩ = some (.int .i64 n)) (hmg : 2 < w.heap.size)
  (hcv : ∀ W, Below w.heap.size w W -> (convert 49 9 (.slice a l.length cp)).run Tryz.prog W = .ok (strV l) W) :
  Calls Tryz.prog 21 #[.slice a l.length cp, .int .i64 room] w fun e w' => LoadR w.heap.size l room e w' /\ Below w.heap.size w w' := by
 have HCU := Lib.hid (cut_any l (by omega) n w hm hmg)
 have HCV := Lib.hid hcv
 have HT := Lib.hid hT
 have HM := Lib.hid hm
 have cv0 := hcv w (Below.refl _ _)
 have HLL : Hid (∀ N : Nat, N = l.length -> N <= 20000) := fun N e => by rw [e]; exact hl
 clear hT hm hcv
 obtain ⟨sl, hsl⟩ : ∃ sl, sl = strV l := ⟨_, rfl⟩
 rw [<- hsl] at HCU HCV cv0
 obtain ⟨Z, hZ⟩ : ∃ Z, Z = l.length := ⟨_, rfl⟩
 rw [<- hZ] at cv0 HCV hl ⊢
 have HZ := Lib.hid hZ
 have HSL := Lib.hid hsl
 clear hsl hZ
 go_enter Tryz.func21, Tryz.ntmps21
 go_wp2_with fail
 refine HCU.out.mono ?_
 rintro e w1 ⟨hcr, hb1⟩
 rcases hcr with ⟨hcn, rfl⟩ | ⟨v, t, N, g, c, hcs, rfl, hg, hNc, hcell⟩
 ·have HE := Lib.hid (load_none (room := room) hcn)
  have HB := Lib.hid (hb1.alloc hb1.size (.cells #[.int .i64 0, .int .i64 0, .slice none 0 0] 111))
  clear hcn hb1
  go_wp2
  refine bodyPost_ret (v := .tuple #[.pointer none, .int .i64 0, .iface 54 (.int .i64 3)]) (by simp [results, Tryz.results21, go_sem]) rfl ?_
  exact ⟨.inl ⟨3, HE.out, rfl⟩, HB.out⟩
 obtain ⟨k1, k2, k3, k4, k5, k6⟩ := cutF_le hcs
 have HCS := Lib.hid hcs
 have hNl : N.length <= 20000 := by have := HLL.out _ rfl; omega
 have hNb : ∀ p ∈ N, p.length <= 50000 := fun p hp => by have := k4 p hp; have := HLL.out _ rfl; omega
 have HNB := Lib.hid hNb
 have hs1 := hb1.size
 obtain ⟨W1, hW1⟩ : ∃ W, W = w1.alloc (.cells #[.int .i64 (v : Int), .int .i64 (t : Int), .slice (some ⟨g, 1, none⟩) N.length c] 111) := ⟨_, rfl⟩
 have hz1 : W1.heap.size = w1.heap.size + 1 := by rw [hW1, World.size_alloc]
 have hB1 : Below w1.heap.size w1 W1 := by rw [hW1]; exact below_new w1 _
 have q1 : Blk W1 w1.heap.size 111 #[.int .i64 (v : Int), .int .i64 (t : Int), .slice (some ⟨g, 1, none⟩) N.length c] := by rw [hW1]; exact Blk.new w1 _ _
 have hbw : Below w.heap.size w W1 := hb1.trans (hB1.mono hs1)
 have HBW := Lib.hid hbw
 have HCE : Hid (∀ j (h : j < N.length), W1.cell? ⟨g, 1 + j, none⟩ = some (strV N[j])) := fun j hj => (hB1.cell (p := ⟨g, 1 + j, none⟩) hg).trans (hcell j hj)
 have d0 := q1.cell 0
 have d1 := q1.cell 1
 have d2 := q1.cell 2
 simp at d0 d1 d2
 have Q1 := Lib.hid q1
 clear hcs hb1 hcell k4 k6 hNb hB1 q1 hbw
 by_cases hr : 0 <= room /\ room <= 4000
 ·have HNW := Lib.hid (bnew_any v k1 room hr.1 hr.2 W1 w.heap.size (by omega))
  go_wp2_with fail
  rw [<- hW1]
  clear hW1
  refine HNW.out.mono ?_
  rintro e w2 ⟨s, b, O, rfl, hS, hss, hO, hb2⟩
  have hs2 := hb2.size
  have HO : Hid (∀ k, O k -> W1.heap.size <= k) := hO
  have HB2 := Lib.hid (HBW.out.trans (hb2.mono HBW.out.size))
  have q2 := Q1.out.below hb2 (by omega)
  have d0 := q2.cell 0
  have d1 := q2.cell 1
  have d2 := q2.cell 2
  simp at d0 d1 d2
  have HLA := Lib.hid (laid_any hS k1 hr.1 hr.2 (by omega) N (by omega) HNB.out g 1 c (by omega) (fun ho => by have := hO g ho; omega) (fun j hj => (hb2.cell (p := ⟨g, 1 + j, none⟩) (show g < W1.heap.size by omega)).trans (HCE.out j hj)) n ((HB2.out.cell (p := ⟨2, 0, none⟩) hmg).trans HM.out) (by omega) (fun ho => by have := hO _ ho; omega))
  have hnO : ¬ O w1.heap.size := fun ho => by have := hO _ ho; omega
  have hl2 : w1.heap.size < w2.heap.size := by omega
  have HQ2 : Hid (∀ i, w2.cell? ⟨w1.heap.size, i, none⟩ = (#[Value.int .i64 (v : Int), .int .i64 (t : Int), .slice (some ⟨g, 1, none⟩) N.length c])[i]?) := fun i => q2.cell i
  clear hS hO hb2 HNW HCE q2 hss Q1 HBW
  go_wp2_with fail
  refine HLA.out.mono ?_
  rintro e w3 hlr
  rcases hlr with ⟨x, hx, rfl, O', hmv⟩ | ⟨ns, H, g3, c3, O', hlo, hli, rfl, hls⟩
  ·have HE := Lib.hid (load_err HCS.out hr hx)
   have HB := Lib.hid (HB2.out.trans (hmv.below (B := w.heap.size) HB2.out.size (fun k hk => by have := HO.out k hk; omega)))
   clear hx hmv HLA
   go_wp2
   refine bodyPost_ret (v := .tuple #[.pointer none, .int .i64 0, .iface 54 (.int .i64 x)]) (by simp [results, Tryz.results21, go_sem]) rfl ?_
   exact ⟨.inl ⟨x, HE.out, rfl⟩, HB.out⟩
  ·have HB3 := Lib.hid (HB2.out.trans (hls.moves.below (B := w.heap.size) HB2.out.size (fun k hk => by have := HO.out k hk; omega)))
   have d1 : w3.cell? ⟨w1.heap.size, 1, none⟩ = some (.int .i64 (t : Int)) := (hls.old (a := ⟨w1.heap.size, 1, none⟩) hl2 hnO).trans (HQ2.out 1)
   have HLS := Lib.hid hls
   have HLO := Lib.hid hlo
   have HLI := Lib.hid hli
   clear hls hlo hli HLA d2 d0
   by_cases ht : t < H.length
   ·have e0 : H.getD t 0 = H[t] := by simp [List.getD_eq_getElem?_getD, ht]
    have ct := HLS.out.cell t ht
    rw [<- e0] at ct
    have hhas := HLI.out.has _ (getD_mem ht)
    have HSV := Lib.hid (save_any HLS.out.space HLI.out.full.ranked (by have := HLI.out.room; omega) k1 (HT.out.below (HB3.out)) (H.getD t 0) hhas)
    have hil : 0 < (imgF v ns (postF ns 25 (H.getD t 0) []) (H.getD t 0)).length := by unfold imgF; simp only [List.length_append, List.length_cons, List.length_nil]; omega
    have HOK : Hid (imgF v ns (postF ns 25 (H.getD t 0) []) (H.getD t 0) = l -> loadF l room = .ok (v, ns, H.getD t 0)) := fun h => load_ok HCS.out hr HLO.out ⟨ht, h⟩
    have HNO : Hid (imgF v ns (postF ns 25 (H.getD t 0) []) (H.getD t 0) ≠ l -> loadF l room = .error 3) := fun h => load_form HCS.out hr HLO.out (fun h' => h h'.2)
    clear e0 hhas
    generalize imgF v ns (postF ns 25 (H.getD t 0) []) (H.getD t 0) = IM at *
    generalize H.getD t 0 = x at *
    obtain ⟨HL, hHL⟩ : ∃ HL, HL = H.length := ⟨_, rfl⟩
    have ti : (t : Int) < (HL : Int) := by omega
    have ti2 : ¬ (HL : Int) <= (t : Int) := by omega
    rw [<- hHL]
    clear ht hHL
    go_wp2_with fail
    refine HSV.out.mono ?_
    rintro e w4 ⟨v4, rfl, hM4, hb4⟩
    obtain ⟨a4, c4, rfl⟩ := hM4.form
    have HB4 := Lib.hid (HB3.out.trans (hb4.mono HB3.out.size))
    have HS4 := Lib.hid (HLS.out.space.new hb4)
    have HEQ := Lib.hid (equal_any (.slice a4 IM.length c4) (.slice a Z cp) IM l w4 (conv_bytes hM4.bytes hil) (by rw [<- HSL.out]; exact HCV.out w4 HB4.out))
    clear hM4 hb4 HSV
    go_wp2_with fail
    refine HEQ.out.mono ?_
    rintro e w5 ⟨rfl, rfl⟩
    by_cases hq : IM = l
    ·have HE := Lib.hid (HOK.out hq)
     have hd : decide (IM = l) = true := decide_eq_true hq
     rw [hd]
     clear HOK HNO hq hd
     go_wp2
     refine bodyPost_ret (v := .tuple #[.pointer (some ⟨s, 0, none⟩), .int .i64 x, .nilIface]) (by simp [results, Tryz.results21, go_sem]) rfl ?_
     exact ⟨.inr ⟨v, ns, x, s, b, O', HE.out, rfl, HS4.out⟩, HB4.out⟩
    ·have HE := Lib.hid (HNO.out hq)
     have hd : decide (IM = l) = false := decide_eq_false hq
     rw [hd]
     clear HOK HNO hq hd
     go_wp2
     refine bodyPost_ret (v := .tuple #[.pointer none, .int .i64 0, .iface 54 (.int .i64 3)]) (by simp [results, Tryz.results21, go_sem]) rfl ?_
     exact ⟨.inl ⟨3, HE.out, rfl⟩, HB4.out⟩
   ·have HE := Lib.hid (load_form HCS.out hr HLO.out (fun h => ht h.1))
    obtain ⟨HL, hHL⟩ : ∃ HL, HL = H.length := ⟨_, rfl⟩
    have ti : (HL : Int) <= (t : Int) := by omega
    rw [<- hHL]
    clear ht hHL
    go_wp2
    refine bodyPost_ret (v := .tuple #[.pointer none, .int .i64 0, .iface 54 (.int .i64 3)]) (by simp [results, Tryz.results21, go_sem]) rfl ?_
    exact ⟨.inl ⟨3, HE.out, rfl⟩, HB3.out⟩
 ·have HE := Lib.hid (load_room HCS.out hr)
  have HNW := Lib.hid (bnew_no (v : Int) room (by omega) W1)
  clear hr
  go_wp2_with fail
  rw [<- hW1]
  clear hW1
  refine HNW.out.mono ?_
  rintro e w2 ⟨rfl, hb2⟩
  have HB := Lib.hid (HBW.out.trans (hb2.mono HBW.out.size))
  clear hb2
  go_wp2
  refine bodyPost_ret (v := .tuple #[.pointer none, .int .i64 0, .iface 54 (.int .i64 2)]) (by simp [results, Tryz.results21, go_sem]) rfl ?_
  exact ⟨.inl ⟨2, HE.out, rfl⟩, HB.out⟩
theorem load_limit (a : Option Addr) (n cp : Nat) (hn : 20000 < n) (room : Int) (w : World) :
  Calls Tryz.prog 21 #[.slice a n cp, .int .i64 room] w fun e w' => e = .returned (.tuple #[.pointer none, .int .i64 0, .iface 54 (.int .i64 4)]) /\ w = w' := by
 have i1 : (20000 : Int) < (n : Int) := by omega
 go_enter Tryz.func21, Tryz.ntmps21
 go_wp2
 refine bodyPost_ret (v := .tuple #[.pointer none, .int .i64 0, .iface 54 (.int .i64 4)]) (by simp [results, Tryz.results21, go_sem]) rfl ?_
 exact ⟨rfl, rfl⟩
end
section
def valD (l : List UInt8) : Nat := l.foldl (fun a b => 10 * a + (b.toNat - 48)) 0
theorem dec_val (u : Nat) : valD (Lib.decDigits u) = u /\ ∀ b ∈ Lib.decDigits u, 48 <= b.toNat /\ b.toNat <= 57 := by
 induction u using Nat.strongRecOn with
 | _ u ih =>
  rw [Lib.decDigits]
  split
  ·rename_i h
   have e : (UInt8.ofNat (48 + u)).toNat = 48 + u := by rw [UInt8.toNat_ofNat']; omega
   refine ⟨by simp only [valD, List.foldl_cons, List.foldl_nil]; rw [e]; omega, fun b hb => ?_⟩
   rw [List.mem_singleton] at hb
   rw [hb, e]; omega
  ·rename_i h
   obtain ⟨h1, h2⟩ := ih (u / 10) (by omega)
   have e : (UInt8.ofNat (48 + u % 10)).toNat = 48 + u % 10 := by rw [UInt8.toNat_ofNat']; omega
   refine ⟨?_, fun b hb => ?_⟩
   ·unfold valD at h1 ⊢
    rw [List.foldl_append, h1]
    simp only [List.foldl_cons, List.foldl_nil]
    rw [e]; omega
   ·rcases List.mem_append.1 hb with hb | hb
    ·exact h2 b hb
    ·rw [List.mem_singleton] at hb
     rw [hb, e]; omega
theorem told_nat (n : Nat) : toldF [(n : Int)] = Lib.decDigits n := by
 have : Lib.itoa (n : Int) = Lib.decDigits n := by unfold Lib.itoa; rw [if_neg (by omega)]; simp
 simp [toldF, Lib.join, this]
end
end Go.Proofs.YtcjjekhecjmaeaaGreatDoor
