/- A space that is read has just its nodes. Plain: no memory. -/
import Derived.Test.YtcjjekhecjmaeaaGreatDoorImFix
import Derived.Test.YtcjjekhecjmaeaaGreatDoorImPost
import Derived.Test.YtcjjekhecjmaeaaGreatDoorBdOpsW
import Derived.Test.YtcjjekhecjmaeaaGreatDoorBdFree
import Derived.Test.YtcjjekhecjmaeaaGreatDoorArBase
import Derived.Test.YtcjjekhecjmaeaaGreatDoorImLoadP
import Derived.Test.YtcjjekhecjmaeaaGreatDoorImLays
set_option maxHeartbeats 4000000
set_option maxRecDepth 100000
namespace Go.Proofs.YtcjjekhecjmaeaaGreatDoor
section
open Go.RowKit Go.Lib
theorem equal_any (va vb : Value) (a b : List UInt8) (w : World) (ha : (convert 49 9 va).run Tryz.prog w = .ok (strV a) w) (hb : (convert 49 9 vb).run Tryz.prog w = .ok (strV b) w) :
  Calls Tryz.prog 56 #[va, vb] w fun e w' => e = .returned (.bool (decide (a = b))) /\ w = w' := by
 have h3 : (⟨a.toArray⟩ : ByteArray).toList = a := by rw [ByteArray.toList_eq]
 have h4 : (⟨b.toArray⟩ : ByteArray).toList = b := by rw [ByteArray.toList_eq]
 unfold strV at ha hb
 generalize (⟨a.toArray⟩ : ByteArray) = s at *
 generalize (⟨b.toArray⟩ : ByteArray) = t at *
 go_enter Tryz.func56, Tryz.ntmps56
 go_wp2
 go_ret
 refine ⟨?_, rfl⟩
 show Ending.returned (Value.bool (a == b)) = _
 congr 2
 by_cases e : a = b
 ·rw [e]; simp
 ·simp [e]
end
section
open Go.RowKit Go.Shelf Go.Lib
theorem conv_bytes {W : World} {v : Value} {l : List UInt8} (h : BytesAt W v l) (hl : 0 < l.length) : (convert 49 9 v).run Tryz.prog W = .ok (.string ⟨l.toArray⟩) W := by
 obtain ⟨a, c, rfl, h⟩ := h
 obtain ⟨g, rfl, -, -⟩ := h 0 hl
 refine run_convert_bytes_back W _ _ 5 ⟨g, 0, none⟩ c l (by kernel_rfl) (by kernel_rfl) (by kernel_rfl) (fun j hj => ?_)
 obtain ⟨g2, e, -, h3⟩ := h j hj
 cases e
 have : (⟨g, 0, none⟩ : Addr).add j = ⟨g, j, none⟩ := by unfold Addr.add; split <;> simp_all
 rw [this]; exact h3
end
section
open Go.RowKit Go.Maps
section
variable {B s b : Nat} {O : Nat -> Prop} {vars : Nat} {room : Int} {ns : List Nd} {w w' : World}
end
theorem new_no (room : Int) (h : room < 0 \/ 4000 < room) (w : World) :
  Calls Tryz.prog 61 #[.int .i64 room] w fun e w' => e = .returned (.tuple #[.pointer none, .iface 54 (.int .i64 2)]) /\ Below w.heap.size w w' := by
 by_cases h0 : room < 0
 ·clear h
  go_enter Tryz.func61, Tryz.ntmps61
  go_wp2
  go_ret2
  exact ⟨rfl, Below.refl _ _⟩
 ·have h1 : 4000 < room := by omega
  clear h
  go_enter Tryz.func61, Tryz.ntmps61
  go_wp2
  go_ret2
  exact ⟨rfl, Below.refl _ _⟩
theorem bnew_no (vars room : Int) (h : vars < 0 \/ 24 < vars \/ room < 0 \/ 4000 < room) (w : World) :
  Calls Tryz.prog 31 #[.int .i64 vars, .int .i64 room] w fun e w' => e = .returned (.tuple #[.pointer none, .iface 54 (.int .i64 2)]) /\ Below w.heap.size w w' := by
 by_cases h0 : vars < 0
 ·clear h
  go_enter Tryz.func31, Tryz.ntmps31
  go_wp2
  go_ret2
  exact ⟨rfl, Below.refl _ _⟩
 by_cases h1 : 24 < vars
 ·clear h
  go_enter Tryz.func31, Tryz.ntmps31
  go_wp2
  go_ret2
  exact ⟨rfl, Below.refl _ _⟩
 ·have HN := Lib.hid (new_no room (by omega) w)
  clear h
  go_enter Tryz.func31, Tryz.ntmps31
  go_wp2_with fail
  refine HN.out.mono ?_
  rintro e w1 ⟨rfl, hb⟩
  go_wp2
  go_ret2
  exact ⟨rfl, hb⟩
end
section
open Go.RowKit Go.Maps
def LoadR (B : Nat) (l : List UInt8) (room : Int) (e : Ending) (w' : World) : Prop :=
 (∃ x, loadF l room = .error x /\ e = .returned (.tuple #[.pointer none, .int .i64 0, .iface 54 (.int .i64 x)])) \/
 ∃ (vars : Nat) (ns : List Nd) (h : Int) (s b : Nat) (O : Nat -> Prop), loadF l room = .ok (vars, ns, h) /\ e = .returned (.tuple #[.pointer (some ⟨s, 0, none⟩), .int .i64 h, .nilIface]) /\ SpaceAt B w' s b O vars room ns
theorem load_any (l : List UInt8) (hl : l.length <= 20000) (a : Option Addr) (cp : Nat) (room : Int) (w : World) (hT : Tab10 w) (n : Int) (hm : w.cell? ⟨2, 0, none⟩ = some (.int .i64 n)) (hmg : 2 < w.heap.size)
  (hcv : ∀ W, Below w.heap.size w W -> (convert 49 9 (.slice a l.length cp)).run Tryz.prog W = .ok (strV l) W) :
  Calls Tryz.prog 21 #[.slice a l.length cp, .int .i64 room] w fun e w' => LoadR w.heap.size l room e w' /\ Below w.heap.size w w' := by
 have HCU := Lib.hid (cut_any l (by omega) n w hm hmg)
 have HCV := Lib.hid hcv
 have HT := Lib.hid hT
 have HM := Lib.hid hm
 have cv0 := hcv w (Below.refl _ _)
 have HLL : Hid (∀ N : Nat, N = l.length -> N <= 20000) := fun N e => by rw [e]; exact hl
 clear hT hm hcv
 obtain ⟨sl, hsl⟩ : ∃ sl, sl = strV l := ⟨_, rfl⟩
 rw [<- hsl] at HCU HCV cv0
 obtain ⟨Z, hZ⟩ : ∃ Z, Z = l.length := ⟨_, rfl⟩
 rw [<- hZ] at cv0 HCV hl ⊢
 have HZ := Lib.hid hZ
 have HSL := Lib.hid hsl
 clear hsl hZ
 go_enter Tryz.func21, Tryz.ntmps21
 go_wp2_with fail
 refine HCU.out.mono ?_
 rintro e w1 ⟨hcr, hb1⟩
 rcases hcr with ⟨hcn, rfl⟩ | ⟨v, t, N, g, c, hcs, rfl, hg, hNc, hcell⟩
 ·have HE := Lib.hid (load_none (room := room) hcn)
  have HB := Lib.hid (hb1.alloc hb1.size (.cells #[.int .i64 0, .int .i64 0, .slice none 0 0] 111))
  clear hcn hb1
  go_wp2
  refine bodyPost_ret (v := .tuple #[.pointer none, .int .i64 0, .iface 54 (.int .i64 3)]) (by simp [results, Tryz.results21, go_sem]) rfl ?_
  exact ⟨.inl ⟨3, HE.out, rfl⟩, HB.out⟩
 obtain ⟨k1, k2, k3, k4, k5, k6⟩ := cutF_le hcs
 have HCS := Lib.hid hcs
 have hNl : N.length <= 20000 := by have := HLL.out _ rfl; omega
 have hNb : ∀ p ∈ N, p.length <= 50000 := fun p hp => by have := k4 p hp; have := HLL.out _ rfl; omega
 have HNB := Lib.hid hNb
 have hs1 := hb1.size
 obtain ⟨W1, hW1⟩ : ∃ W, W = w1.alloc (.cells #[.int .i64 (v : Int), .int .i64 (t : Int), .slice (some ⟨g, 1, none⟩) N.length c] 111) := ⟨_, rfl⟩
 have hz1 : W1.heap.size = w1.heap.size + 1 := by rw [hW1, World.size_alloc]
 have hB1 : Below w1.heap.size w1 W1 := by rw [hW1]; exact below_new w1 _
 have q1 : Blk W1 w1.heap.size 111 #[.int .i64 (v : Int), .int .i64 (t : Int), .slice (some ⟨g, 1, none⟩) N.length c] := by rw [hW1]; exact Blk.new w1 _ _
 have hbw : Below w.heap.size w W1 := hb1.trans (hB1.mono hs1)
 have HBW := Lib.hid hbw
 have HCE : Hid (∀ j (h : j < N.length), W1.cell? ⟨g, 1 + j, none⟩ = some (strV N[j])) := fun j hj => (hB1.cell (p := ⟨g, 1 + j, none⟩) hg).trans (hcell j hj)
 have d0 := q1.cell 0
 have d1 := q1.cell 1
 have d2 := q1.cell 2
 simp at d0 d1 d2
 have Q1 := Lib.hid q1
 clear hcs hb1 hcell k4 k6 hNb hB1 q1 hbw
 by_cases hr : 0 <= room /\ room <= 4000
 ·have HNW := Lib.hid (bnew_any v k1 room hr.1 hr.2 W1 w.heap.size (by omega))
  go_wp2_with fail
  rw [<- hW1]
  clear hW1
  refine HNW.out.mono ?_
  rintro e w2 ⟨s, b, O, rfl, hS, hss, hO, hb2⟩
  have hs2 := hb2.size
  have HO : Hid (∀ k, O k -> W1.heap.size <= k) := hO
  have HB2 := Lib.hid (HBW.out.trans (hb2.mono HBW.out.size))
  have q2 := Q1.out.below hb2 (by omega)
  have d0 := q2.cell 0
  have d1 := q2.cell 1
  have d2 := q2.cell 2
  simp at d0 d1 d2
  have HLA := Lib.hid (laid_any hS k1 hr.1 hr.2 (by omega) N (by omega) HNB.out g 1 c (by omega) (fun ho => by have := hO g ho; omega) (fun j hj => (hb2.cell (p := ⟨g, 1 + j, none⟩) (show g < W1.heap.size by omega)).trans (HCE.out j hj)) n ((HB2.out.cell (p := ⟨2, 0, none⟩) hmg).trans HM.out) (by omega) (fun ho => by have := hO _ ho; omega))
  have hnO : ¬ O w1.heap.size := fun ho => by have := hO _ ho; omega
  have hl2 : w1.heap.size < w2.heap.size := by omega
  have HQ2 : Hid (∀ i, w2.cell? ⟨w1.heap.size, i, none⟩ = (#[Value.int .i64 (v : Int), .int .i64 (t : Int), .slice (some ⟨g, 1, none⟩) N.length c])[i]?) := fun i => q2.cell i
  clear hS hO hb2 HNW HCE q2 hss Q1 HBW
  go_wp2_with fail
  refine HLA.out.mono ?_
  rintro e w3 hlr
  rcases hlr with ⟨x, hx, rfl, O', hmv⟩ | ⟨ns, H, g3, c3, O', hlo, hli, rfl, hls⟩
  ·have HE := Lib.hid (load_err HCS.out hr hx)
   have HB := Lib.hid (HB2.out.trans (hmv.below (B := w.heap.size) HB2.out.size (fun k hk => by have := HO.out k hk; omega)))
   clear hx hmv HLA
   go_wp2
   refine bodyPost_ret (v := .tuple #[.pointer none, .int .i64 0, .iface 54 (.int .i64 x)]) (by simp [results, Tryz.results21, go_sem]) rfl ?_
   exact ⟨.inl ⟨x, HE.out, rfl⟩, HB.out⟩
  ·have HB3 := Lib.hid (HB2.out.trans (hls.moves.below (B := w.heap.size) HB2.out.size (fun k hk => by have := HO.out k hk; omega)))
   have d1 : w3.cell? ⟨w1.heap.size, 1, none⟩ = some (.int .i64 (t : Int)) := (hls.old (a := ⟨w1.heap.size, 1, none⟩) hl2 hnO).trans (HQ2.out 1)
   have HLS := Lib.hid hls
   have HLO := Lib.hid hlo
   have HLI := Lib.hid hli
   clear hls hlo hli HLA d2 d0
   by_cases ht : t < H.length
   ·have e0 : H.getD t 0 = H[t] := by simp [List.getD_eq_getElem?_getD, ht]
    have ct := HLS.out.cell t ht
    rw [<- e0] at ct
    have hhas := HLI.out.has _ (getD_mem ht)
    have HSV := Lib.hid (save_any HLS.out.space HLI.out.full.ranked (by have := HLI.out.room; omega) k1 (HT.out.below (HB3.out)) (H.getD t 0) hhas)
    have hil : 0 < (imgF v ns (postF ns 25 (H.getD t 0) []) (H.getD t 0)).length := by unfold imgF; simp only [List.length_append, List.length_cons, List.length_nil]; omega
    have HOK : Hid (imgF v ns (postF ns 25 (H.getD t 0) []) (H.getD t 0) = l -> loadF l room = .ok (v, ns, H.getD t 0)) := fun h => load_ok HCS.out hr HLO.out ⟨ht, h⟩
    have HNO : Hid (imgF v ns (postF ns 25 (H.getD t 0) []) (H.getD t 0) ≠ l -> loadF l room = .error 3) := fun h => load_form HCS.out hr HLO.out (fun h' => h h'.2)
    clear e0 hhas
    generalize imgF v ns (postF ns 25 (H.getD t 0) []) (H.getD t 0) = IM at *
    generalize H.getD t 0 = x at *
    obtain ⟨HL, hHL⟩ : ∃ HL, HL = H.length := ⟨_, rfl⟩
    have ti : (t : Int) < (HL : Int) := by omega
    have ti2 : ¬ (HL : Int) <= (t : Int) := by omega
    rw [<- hHL]
    clear ht hHL
    go_wp2_with fail
    refine HSV.out.mono ?_
    rintro e w4 ⟨v4, rfl, hM4, hb4⟩
    obtain ⟨a4, c4, rfl⟩ := hM4.form
    have HB4 := Lib.hid (HB3.out.trans (hb4.mono HB3.out.size))
    have HS4 := Lib.hid (HLS.out.space.new hb4)
    have HEQ := Lib.hid (equal_any (.slice a4 IM.length c4) (.slice a Z cp) IM l w4 (conv_bytes hM4.bytes hil) (by rw [<- HSL.out]; exact HCV.out w4 HB4.out))
    clear hM4 hb4 HSV
    go_wp2_with fail
    refine HEQ.out.mono ?_
    rintro e w5 ⟨rfl, rfl⟩
    by_cases hq : IM = l
    ·have HE := Lib.hid (HOK.out hq)
     have hd : decide (IM = l) = true := decide_eq_true hq
     rw [hd]
     clear HOK HNO hq hd
     go_wp2
     refine bodyPost_ret (v := .tuple #[.pointer (some ⟨s, 0, none⟩), .int .i64 x, .nilIface]) (by simp [results, Tryz.results21, go_sem]) rfl ?_
     exact ⟨.inr ⟨v, ns, x, s, b, O', HE.out, rfl, HS4.out⟩, HB4.out⟩
    ·have HE := Lib.hid (HNO.out hq)
     have hd : decide (IM = l) = false := decide_eq_false hq
     rw [hd]
     clear HOK HNO hq hd
     go_wp2
     refine bodyPost_ret (v := .tuple #[.pointer none, .int .i64 0, .iface 54 (.int .i64 3)]) (by simp [results, Tryz.results21, go_sem]) rfl ?_
     exact ⟨.inl ⟨3, HE.out, rfl⟩, HB4.out⟩
   ·have HE := Lib.hid (load_form HCS.out hr HLO.out (fun h => ht h.1))
    obtain ⟨HL, hHL⟩ : ∃ HL, HL = H.length := ⟨_, rfl⟩
    have ti : (HL : Int) <= (t : Int) := by omega
    rw [<- hHL]
    clear ht hHL
    go_wp2
    refine bodyPost_ret (v := .tuple #[.pointer none, .int .i64 0, .iface 54 (.int .i64 3)]) (by simp [results, Tryz.results21, go_sem]) rfl ?_
    exact ⟨.inl ⟨3, HE.out, rfl⟩, HB3.out⟩
 ·have HE := Lib.hid (load_room HCS.out hr)
  have HNW := Lib.hid (bnew_no (v : Int) room (by omega) W1)
  clear hr
  go_wp2_with fail
  rw [<- hW1]
  clear hW1
  refine HNW.out.mono ?_
  rintro e w2 ⟨rfl, hb2⟩
  have HB := Lib.hid (HBW.out.trans (hb2.mono HBW.out.size))
  clear hb2
  go_wp2
  refine bodyPost_ret (v := .tuple #[.pointer none, .int .i64 0, .iface 54 (.int .i64 2)]) (by simp [results, Tryz.results21, go_sem]) rfl ?_
  exact ⟨.inl ⟨2, HE.out, rfl⟩, HB.out⟩
end
section
def valD (l : List UInt8) : Nat := l.foldl (fun a b => 10 * a + (b.toNat - 48)) 0
theorem dec_val (u : Nat) : valD (Lib.decDigits u) = u /\ ∀ b ∈ Lib.decDigits u, 48 <= b.toNat /\ b.toNat <= 57 := by
 induction u using Nat.strongRecOn with
 | _ u ih =>
  rw [Lib.decDigits]
  split
  ·rename_i h
   have e : (UInt8.ofNat (48 + u)).toNat = 48 + u := by rw [UInt8.toNat_ofNat']; omega
   refine ⟨by simp only [valD, List.foldl_cons, List.foldl_nil]; rw [e]; omega, fun b hb => ?_⟩
   rw [List.mem_singleton] at hb
   rw [hb, e]; omega
  ·rename_i h
   obtain ⟨h1, h2⟩ := ih (u / 10) (by omega)
   have e : (UInt8.ofNat (48 + u % 10)).toNat = 48 + u % 10 := by rw [UInt8.toNat_ofNat']; omega
   refine ⟨?_, fun b hb => ?_⟩
   ·unfold valD at h1 ⊢
    rw [List.foldl_append, h1]
    simp only [List.foldl_cons, List.foldl_nil]
    rw [e]; omega
   ·rcases List.mem_append.1 hb with hb | hb
    ·exact h2 b hb
    ·rw [List.mem_singleton] at hb
     rw [hb, e]; omega
theorem told_nat (n : Nat) : toldF [(n : Int)] = Lib.decDigits n := by
 have : Lib.itoa (n : Int) = Lib.decDigits n := by unfold Lib.itoa; rw [if_neg (by omega)]; simp
 simp [toldF, Lib.join, this]
end
section
open Go.RowKit Go.Maps
section
variable {ns : List Nd}
theorem marks_top (hr : Ranked ns) (h : Int) : MarkedOr ns (marksOf ns [h]) h :=
 (markF_closed hr 24 h (List.replicate ns.length false) (by simp) (by have := (topOf_le hr h).1; omega)).1
theorem post_marked (hr : Ranked ns) {M : List Bool} (hc : ∀ i, i < ns.length -> mk M i = true -> MarkedOr ns M (nd ns i).l /\ MarkedOr ns M (nd ns i).h) : ∀ (d : Nat) (h : Int) (D : List Int), MarkedOr ns M h -> (∀ x ∈ D, mk M (pl x) = true) -> ∀ x ∈ postF ns d h D, mk M (pl x) = true
 | 0, _, _, _, hD => hD
 | d + 1, h, D, hm, hD => by
  intro x hx
  unfold postF at hx
  split at hx
  ·exact hD x hx
  ·rename_i c
   have ht : topOf ns h ≠ 24 := fun e => c (.inl e)
   have hmk : mk M (pl h) = true := hm.resolve_left ht
   obtain ⟨n1, n2, -⟩ := node_at ht
   have hk := hc _ n2 hmk
   rcases List.mem_append.1 hx with hx | hx
   ·exact post_marked hr hc d _ _ hk.2 (post_marked hr hc d _ _ hk.1 hD) x hx
   ·rw [List.mem_singleton] at hx; subst hx; exact hmk
theorem all_reached (hF : FullN ns) {h : Int} (hh : hasB ns h = true) (hn : (postF ns 25 h []).length = ns.length) : taken (swept ns (marksOf ns [h])) = taken ns := by
 have hr := hF.ranked
 obtain ⟨hD, -, -⟩ := post_ok hr 25 h [] ⟨fun x hx => (by cases hx), List.nodup_nil, fun x hx => (by cases hx)⟩ hh (by have := (topOf_le hr h).1; omega)
 have hm := post_marked hr (marksOf_closed hr [h]) 25 h [] (marks_top hr h) (fun x hx => by cases hx)
 have hall : ∀ i, i < ns.length -> mk (marksOf ns [h]) i = true := fun i hi => by
  by_cases hc : (2 + (i : Int)) ∈ postF ns 25 h []
  ·have := hm _ hc
   have e : pl (2 + (i : Int)) = i := by unfold pl; omega
   rwa [e] at this
  ·exfalso
   have hnd : ((2 + (i : Int)) :: postF ns 25 h []).Nodup := List.nodup_cons.2 ⟨hc, hD.nodup⟩
   have := hnd.length_le_of_subset (l₂ := (List.range ns.length).map (fun i : Nat => 2 + (i : Int))) (fun x hx => by
    rcases List.mem_cons.1 hx with rfl | hx
    ·exact List.mem_map.2 ⟨i, List.mem_range.2 hi, rfl⟩
    ·obtain ⟨h1, h2, -, h4⟩ := node_at (hD.node x hx)
     exact List.mem_map.2 ⟨pl x, List.mem_range.2 h2, h4.symm⟩)
   simp at this
   omega
 unfold taken
 rw [swept_length]
 refine List.filter_congr fun i hi => ?_
 have hi' := List.mem_range.1 hi
 rw [swept_at ns _ i hi', if_pos (hall i hi')]
end
theorem itoa_nat (n : Nat) : Lib.itoa (n : Int) = Lib.decDigits n := by unfold Lib.itoa; rw [if_neg (by omega)]; simp
theorem dec_no (n : Nat) {b : UInt8} (hb : b.toNat < 48 \/ 57 < b.toNat) : b ∉ Lib.decDigits n := fun h => by
 have := (dec_val n).2 b h
 omega
theorem told3 (a b c : Nat) : toldF [(a : Int), (b : Int), (c : Int)] = Lib.decDigits a ++ 32 :: (Lib.decDigits b ++ 32 :: Lib.decDigits c) := by
 simp [toldF, Lib.join, itoa_nat]
theorem told3_no (a b c : Nat) : (10 : UInt8) ∉ toldF [(a : Int), (b : Int), (c : Int)] := by
 rw [told3]
 have h1 := dec_no a (b := 10) (.inl (by decide))
 have h2 := dec_no b (b := 10) (.inl (by decide))
 have h3 := dec_no c (b := 10) (.inl (by decide))
 simp [h1, h2, h3]
theorem told1_no (a : Nat) : (10 : UInt8) ∉ toldF [(a : Int)] := told_no' a
 where told_no' (a : Nat) : (10 : UInt8) ∉ toldF [(a : Int)] := by rw [told_nat]; exact dec_no a (.inl (by decide))
theorem numD_nat {D : List Int} {x : Int} (hi : InD D x) : ∃ n : Nat, numD D x = (n : Int) := ⟨(numD D x).toNat, by have := (numD_bd hi).1; omega⟩
section
variable {ns : List Nd} {D : List Int} {vars : Nat} {h : Int}
theorem line_no (hr : Ranked ns) (hD : Listed ns D) {x : Int} (hx : x ∈ D) : (10 : UInt8) ∉ toldF [(nd ns (pl x)).v, numD D (nd ns (pl x)).l, numD D (nd ns (pl x)).h] := by
 obtain ⟨a, ha⟩ : ∃ a : Nat, (nd ns (pl x)).v = (a : Int) := ⟨(nd ns (pl x)).v.toNat, by have := (nd_v hr (hD.node x hx)).1; omega⟩
 obtain ⟨b, hb⟩ := numD_nat (hD.kid x hx).1
 obtain ⟨c, hc⟩ := numD_nat (hD.kid x hx).2
 rw [ha, hb, hc]; exact told3_no a b c
theorem img_lines (hr : Ranked ns) (hD : Listed ns D) (hi : InD D h) : (imgF vars ns D h).count 10 = D.length + 2 := by
 have key : ∀ (E : List Int), (∀ x ∈ E, x ∈ D) -> (E.flatMap (lineF ns D)).count 10 = E.length := by
  intro E
  induction E with
  | nil => intro _; rfl
  | cons x E ih =>
   intro hE
   rw [List.flatMap_cons, List.count_append, ih (fun y hy => hE y (List.mem_cons_of_mem _ hy)), List.length_cons]
   unfold lineF
   rw [List.count_append, List.count_eq_zero.2 (line_no hr hD (hE x (List.mem_cons_self ..)))]
   simp; omega
 obtain ⟨t, ht⟩ := numD_nat hi
 have h1 : (toldF [(vars : Int), (D.length : Int), numD D h]).count 10 = 0 := by rw [ht]; exact List.count_eq_zero.2 (told3_no _ _ _)
 have h2 : (toldF [(sumF (bodyF vars ns D h) : Int)]).count 10 = 0 := List.count_eq_zero.2 (told1_no _)
 have h3 : (bodyF vars ns D h).count 10 = D.length + 1 := by
  unfold bodyF headF
  rw [List.count_append, key D (fun _ h => h), List.count_append, List.count_append, h1]
  simp; omega
 unfold imgF
 rw [List.count_append, List.count_append, List.count_append, h2, h3]
 simp
end
theorem cut_len {l : List UInt8} {v t : Nat} {N : List (List UInt8)} (h : cutF l = some (v, t, N)) : N.length + 2 = l.count 10 := by
 unfold cutF at h
 split at h
 ·rename_i h1
  split at h
  ·split at h
   ·split at h
    ·rename_i h4
     obtain ⟨-, -, rfl⟩ : _ /\ _ /\ ((splitL 10 (l.take (l.length - 1))).drop 1).dropLast = N := by simpa using h
     have hl := splitL_len 10 (l.take (l.length - 1))
     have hs : l.count 10 = (l.take (l.length - 1)).count 10 + (l.drop (l.length - 1)).count 10 := by rw [<- List.count_append, List.take_append_drop]
     rw [h1.2] at hs
     simp at hs
     rw [List.length_dropLast, List.length_drop]
     omega
    ·cases h
   ·cases h
  ·cases h
 ·cases h
theorem load_all {l : List UInt8} {room : Int} {v : Nat} {ns : List Nd} {h : Int} (hl : loadF l room = .ok (v, ns, h)) : taken (swept ns (marksOf ns [h])) = taken ns := by
 have hf := load_fine hl
 refine all_reached hf.2.2.2.1 hf.2.2.2.2.1 ?_
 have hr := hf.2.2.2.1.ranked
 obtain ⟨hD, hiD, -⟩ := post_ok hr 25 h [] ⟨fun x hx => (by cases hx), List.nodup_nil, fun x hx => (by cases hx)⟩ hf.2.2.2.2.1 (by have := (topOf_le hr h).1; omega)
 have h1 := img_lines (vars := v) hr hD hiD
 rw [hf.2.2.2.2.2.2] at h1
 have h2 := listed_len hD
 unfold loadF at hl
 split at hl
 ·cases hl
 ·rename_i v' t N hc
  have h3 := cut_len hc
  obtain ⟨k1, -⟩ := cutF_le hc
  split at hl
  ·rename_i hrm
   split at hl
   ·cases hl
   ·rename_i ns' H hH
    split at hl
    ·obtain ⟨rfl, rfl, rfl⟩ : v' = v /\ ns' = ns /\ H.getD t 0 = h := by simpa using hl
     have h4 := (laidF_ok k1 hrm.2 N (LayInv.start v' hrm.1) hH).2.2
     simp at h4
     omega
    ·cases hl
  ·cases hl
end
end Go.Proofs.YtcjjekhecjmaeaaGreatDoor
