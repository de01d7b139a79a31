/- A range's text, as the program writes it. -/
import Derived.Test.YtmhophccdfmngaaGreatDoorRlLine
import Derived.Test.YtmhophccdfmngaaGreatDoorSvShelfC
import Derived.Test.YtmhophccdfmngaaGreatDoorSvTxtF
set_option maxHeartbeats 4000000
set_option maxRecDepth 100000
namespace Go.Proofs.YtmhophccdfmngaaGreatDoor
open Go.RowKit Go.Shelf Sv
theorem rline_pkg_bad (s : ByteArray) (w : World) (hs : s.size <= 100000) (hw : Lb w) (hF : FineR w) (ad : Addr) (cap : Nat) (hK : KindsAt w ad cap) (hk : kindF (cutF s 32).1 = 1) (va vb vc : Nat) (hver : versF (cutF (cutF (cutF s 32).2 32).2 32).1 = .ok [va, vb, vc]) (hr : (cutF (cutF (cutF s 32).2 32).2 32).2.size ≠ 0) : Calls Tryz.prog 44 #[.string s] w (RlRes w (.error (3, none))) := by
 have k0 := (Blk.new w 79 z7).alloc (.cells #[.int .i64 0, .int .i64 0] 26)
 have k1 := Blk.new (w.alloc (.cells z7 79)) 26 #[.int .i64 0, .int .i64 0]
 rw [World.size_alloc] at k1
 have hB0 : Below w.heap.size w ((w.alloc (.cells z7 79)).alloc (.cells #[.int .i64 0, .int .i64 0] 26)) := ((Below.refl _ w).alloc (Nat.le_refl _) _).alloc (by simp) _
 have HK0 := Lib.hid k0
 have HK1 := Lib.hid k1
 have HB0 := Lib.hid hB0
 have HN1 := Lib.hid (fun W => rnext_any s W hs)
 have hz2 := (cutF_size s 32).2
 have HLW := Lib.hid hw
 have HFN := Lib.hid hF
 have HKD := Lib.hid hK
 obtain ⟨w1, hw1⟩ : ∃ w1, (cutF s 32).1 = w1 := ⟨_, rfl⟩
 obtain ⟨s2, hs2⟩ : ∃ s2, (cutF s 32).2 = s2 := ⟨_, rfl⟩
 rw [hw1] at hk HN1
 rw [hs2] at hz2 HN1
 have hz2' : s2.size <= 100000 := by omega
 have HKX : Hid (∀ k, 1 <= k -> k <= 4 -> ((⟨(wl k).toArray⟩ : ByteArray).toList == w1.toList) = decide (kindF w1 = k)) := fun k h1 h4 => kind_lt h1 h4
 rw [hk] at HKX
 have HN2 := Lib.hid (fun W => rnext_any s2 W hz2')
 have hz3 := (cutF_size s2 32).2
 obtain ⟨nm, hnm⟩ : ∃ nm, (cutF s2 32).1 = nm := ⟨_, rfl⟩
 obtain ⟨s3, hs3⟩ : ∃ s3, (cutF s2 32).2 = s3 := ⟨_, rfl⟩
 rw [hnm] at HN2
 rw [hs3] at hz3 HN2
 have hz3' : s3.size <= 100000 := by omega
 have HN3 := Lib.hid (fun W => rnext_any s3 W hz3')
 have hz4 := cutF_size s3 32
 obtain ⟨vw, hvw⟩ : ∃ vw, (cutF s3 32).1 = vw := ⟨_, rfl⟩
 obtain ⟨s4, hs4⟩ : ∃ s4, (cutF s3 32).2 = s4 := ⟨_, rfl⟩
 rw [hvw, hs4] at hz4 HN3
 have hz4' : s4.size <= 100000 := by omega
 have HVP0 : ∀ W, Below w.heap.size w W -> Calls Tryz.prog 97 #[.string vw] W fun e w' => e = .returned (rversV (versF vw)) /\ Below W.heap.size W w' := fun W hb => rvparse_any splitC vw W (by omega) (hw.below hb)
 rw [hs2, hs3, hvw] at hver
 rw [hver] at HVP0
 have HVP : Hid (∀ W, Below w.heap.size w W -> Calls Tryz.prog 97 #[.string vw] W fun e w' => e = .returned (.tuple #[.agg #[.int .i64 (va : Int), .int .i64 (vb : Int), .int .i64 (vc : Int)], .int .i64 0]) /\ Below W.heap.size W w') := HVP0
 clear HVP0 hver
 have hs3q := hs3
 clear hz3 hz4 hnm hs3 hvw
 rw [hs2, show (cutF s2 32).2 = s3 from hs3q, hs4] at hr
 have hrb : (s4.toList == []) = false := by
  rw [beq_eq_false_iff_ne, ByteArray.toList_eq]
  intro e
  have := congrArg List.length e
  simp at this
  exact hr (by rw [this]; rfl)
 clear hr hs3q hs4
 clear k0 k1 hB0 hw hF hK hz2 hs
 go_enter Tryz.func44, Tryz.ntmps44
 go_wp2_with fail
 generalize (w.alloc (.cells z7 79)).alloc (.cells #[.int .i64 0, .int .i64 0] 26) = W0 at *
 refine (HN1.out _).mono ?_
 rintro e wA ⟨rfl, hbA⟩
 have hx := Blk.new wA 79 z7
 have hA : Below wA.heap.size wA (wA.alloc (.cells z7 79)) := (Below.refl _ _).alloc (Nat.le_refl _) _
 have hA0 : Below W0.heap.size W0 (wA.alloc (.cells z7 79)) := hbA.trans (hA.mono hbA.size)
 have hLR : LR w (wA.alloc (.cells z7 79)) wA.heap.size z7 := ⟨HK0.out.below hA0 HK0.out.lt, HK1.out.below hA0 HK1.out.lt, hx, Nat.lt_of_lt_of_le HK1.out.lt hbA.size, HB0.out.trans (hA0.mono HB0.out.size)⟩
 have HLR := Lib.hid hLR
 clear hbA hx hA hA0 hLR HN1 HK0 HK1 HB0
 go_wp2_with fail
 generalize wA.alloc (.cells z7 79) = W1 at *
 obtain ⟨b, hb⟩ : ∃ b, wA.heap.size = b := ⟨_, rfl⟩
 rw [hb] at HLR ⊢
 clear hb
 go_loopw [7] (fun kV wr => ∃ k : Nat, 1 <= k /\ k <= 5 /\ kV = .int .i64 (k : Int) /\ LR w wr b (x7 (kup 1 k) ⟨#[]⟩ 0 0 0 ⟨#[]⟩ (.slice none 0 0))) (fun kV _ => 5 - (intOf kV).toNat)
 case atStart => exact ⟨1, by omega, by omega, rfl, by rw [show kup 1 1 = 0 by unfold kup; split <;> omega]; exact HLR.out⟩
 case round =>
  clear HLR
  obtain ⟨k, hk1, hk5, rfl, hLR⟩ := hrel
  have HL := Lib.hid hLR
  clear hLR
  by_cases hlt : k <= 4
  ·have hkd := HKD.out.below HL.out.B
   have g0 := hkd.c
   have g1 := hkd.s k (by omega)
   have hc := HKX.out k hk1 hlt
   have x0 : wr.cell? ⟨b, 0, none⟩ = some (.int .i64 ((kup 1 k : Nat) : Int)) := HL.out.x.cell 0
   have xf := HL.out.x.frozen 0
   clear hkd
   by_cases he : 1 = k
   ·have hst := HL.out.set 0 (.int .i64 (k : Int))
    have HST : Hid (LR w (wr.setCell ⟨b, 0, none⟩ (.int .i64 (k : Int))) b (x7 (kup 1 (k + 1)) ⟨#[]⟩ 0 0 0 ⟨#[]⟩ (.slice none 0 0))) := by
     have e : kup 1 (k + 1) = k := by unfold kup; rw [if_pos (by omega)]; exact he
     rw [e]; exact hst
    rw [decide_eq_true he] at hc
    generalize kup 1 k = KU at *
    generalize (⟨(wl k).toArray⟩ : ByteArray) = WK at *
    clear hst he
    go_wp2
    go_roundw
    case rel => exact ⟨k + 1, by omega, by omega, by go_num, HST.out⟩
    case measure => simp [intOf]; omega
   ·have HST : Hid (LR w wr b (x7 (kup 1 (k + 1)) ⟨#[]⟩ 0 0 0 ⟨#[]⟩ (.slice none 0 0))) := by
     have e : kup 1 (k + 1) = kup 1 k := by
      unfold kup
      by_cases h : 1 < k
      ·rw [if_pos h, if_pos (by omega)]
      ·rw [if_neg h, if_neg (by omega)]
     rw [e]; exact HL.out
    rw [decide_eq_false he] at hc
    generalize kup 1 k = KU at *
    generalize (⟨(wl k).toArray⟩ : ByteArray) = WK at *
    clear he
    go_wp2
    go_roundw
    case rel => exact ⟨k + 1, by omega, by omega, by go_num, HST.out⟩
    case measure => simp [intOf]; omega
  ·obtain rfl : k = 5 := by omega
   have hku : kup 1 5 = 1 := by unfold kup; rw [if_pos (by omega)]
   rw [hku] at HL
   clear hku
   have xc0 : wr.cell? ⟨b, 0, none⟩ = some (.int .i64 (1 : Int)) := HL.out.x.cell 0
   go_wp2_with fail
   refine (HN2.out _).mono ?_
   rintro e wB ⟨rfl, hb⟩
   have HLB := Lib.hid (HL.out.step hb)
   clear hb HN2 HL
   have xb0 : wB.cell? ⟨b, 0, none⟩ = some (.int .i64 1) := HLB.out.x.cell 0
   have xb1 : wB.cell? ⟨b, 1, none⟩ = some (.string ⟨#[]⟩) := HLB.out.x.cell 1
   have xg1 := HLB.out.x.frozen 1
   have HL2 : Hid (LR w (wB.setCell ⟨b, 1, none⟩ (.string nm)) b (x7 1 nm 0 0 0 ⟨#[]⟩ (.slice none 0 0))) := HLB.out.set 1 (.string nm)
   have y0 : (wB.setCell ⟨b, 1, none⟩ (.string nm)).cell? ⟨b, 0, none⟩ = some (.int .i64 1) := HL2.out.x.cell 0
   clear HLB xc0
   go_wp2_with fail
   generalize wB.setCell ⟨b, 1, none⟩ (.string nm) = W2 at *
   clear xb0 xb1 xg1
   refine (HN3.out _).mono ?_
   rintro e wC ⟨rfl, hb⟩
   have HL3 := Lib.hid (HL2.out.step hb)
   have HV3 := Lib.hid (HVP.out _ HL3.out.B)
   clear hb HN3 HL2 y0 HVP
   go_wp2_with fail
   refine HV3.out.mono ?_
   rintro e wD ⟨rfl, hb⟩
   have HL4 := Lib.hid (HL3.out.step hb)
   have kv := Blk.new wD 48 #[.int .i64 (va : Int), .int .i64 (vb : Int), .int .i64 (vc : Int)]
   have hbv : Below wD.heap.size wD (wD.alloc (.cells #[.int .i64 (va : Int), .int .i64 (vb : Int), .int .i64 (vc : Int)] 48)) := (Below.refl _ _).alloc (Nat.le_refl _) _
   have HL := Lib.hid (HL4.out.step hbv)
   have HKV := Lib.hid kv
   clear hb hbv HL3 HL4 HV3 kv
   have v0 := HKV.out.cell 0
   have v1 := HKV.out.cell 1
   have v2 := HKV.out.cell 2
   have e0 : (wD.alloc (.cells #[.int .i64 (va : Int), .int .i64 (vb : Int), .int .i64 (vc : Int)] 48)).cell? ⟨b, 0, none⟩ = some (.int .i64 1) := HL.out.x.cell 0
   have e2 : (wD.alloc (.cells #[.int .i64 (va : Int), .int .i64 (vb : Int), .int .i64 (vc : Int)] 48)).cell? ⟨b, 2, none⟩ = some (.int .i64 0) := HL.out.x.cell 2
   have e3 : (wD.alloc (.cells #[.int .i64 (va : Int), .int .i64 (vb : Int), .int .i64 (vc : Int)] 48)).cell? ⟨b, 3, none⟩ = some (.int .i64 0) := HL.out.x.cell 3
   have e4 : (wD.alloc (.cells #[.int .i64 (va : Int), .int .i64 (vb : Int), .int .i64 (vc : Int)] 48)).cell? ⟨b, 4, none⟩ = some (.int .i64 0) := HL.out.x.cell 4
   have e2f := HL.out.x.frozen 2
   have e3f := HL.out.x.frozen 3
   have e4f := HL.out.x.frozen 4
   have hz5 := (((HL.out.set 2 (.int .i64 (va : Int))).set 3 (.int .i64 (vb : Int))).set 4 (.int .i64 (vc : Int)))
   have HX5 : Hid (LR w ((((wD.alloc (.cells #[.int .i64 (va : Int), .int .i64 (vb : Int), .int .i64 (vc : Int)] 48)).setCell ⟨b, 2, none⟩ (.int .i64 (va : Int))).setCell ⟨b, 3, none⟩ (.int .i64 (vb : Int))).setCell ⟨b, 4, none⟩ (.int .i64 (vc : Int))) b (x7 1 nm (va : Int) (vb : Int) (vc : Int) ⟨#[]⟩ (.slice none 0 0))) := hz5
   have m0 : ((((wD.alloc (.cells #[.int .i64 (va : Int), .int .i64 (vb : Int), .int .i64 (vc : Int)] 48)).setCell ⟨b, 2, none⟩ (.int .i64 (va : Int))).setCell ⟨b, 3, none⟩ (.int .i64 (vb : Int))).setCell ⟨b, 4, none⟩ (.int .i64 (vc : Int))).cell? ⟨b, 0, none⟩ = some (.int .i64 1) := hz5.x.cell 0
   clear hz5 HL
   go_upto_region 17 with fail
   obtain ⟨W5, hW5⟩ : ∃ W5, ((((wD.alloc (.cells #[.int .i64 (va : Int), .int .i64 (vb : Int), .int .i64 (vc : Int)] 48)).setCell ⟨b, 2, none⟩ (.int .i64 (va : Int))).setCell ⟨b, 3, none⟩ (.int .i64 (vb : Int))).setCell ⟨b, 4, none⟩ (.int .i64 (vc : Int))) = W5 := ⟨_, rfl⟩
   rw [hW5] at HX5 m0 ⊢
   clear hW5 v0 v1 v2 e0 e2 e3 e4 e2f e3f e4f HKV
   have HL := HX5
   clear HX5
   have HBR := Lib.hid (refBare 3 W5)
   go_wp2_with fail
   refine HBR.out.mono ?_
   rintro e wE ⟨rfl, hbE⟩
   have hE := HL.out.step hbE
   have zc0 : wE.cell? ⟨w.heap.size, 0, none⟩ = some (.int .i64 0) := hE.z.cell 0
   have zc1 : wE.cell? ⟨w.heap.size, 1, none⟩ = some (.string ⟨#[]⟩) := hE.z.cell 1
   have zc2 : wE.cell? ⟨w.heap.size, 2, none⟩ = some (.int .i64 0) := hE.z.cell 2
   have zc3 : wE.cell? ⟨w.heap.size, 3, none⟩ = some (.int .i64 0) := hE.z.cell 3
   have zc4 : wE.cell? ⟨w.heap.size, 4, none⟩ = some (.int .i64 0) := hE.z.cell 4
   have zc5 : wE.cell? ⟨w.heap.size, 5, none⟩ = some (.string ⟨#[]⟩) := hE.z.cell 5
   have zc6 : wE.cell? ⟨w.heap.size, 6, none⟩ = some (.slice none 0 0) := hE.z.cell 6
   have zf0 := hE.z.frozen 0
   have zf1 := hE.z.frozen 1
   have zf2 := hE.z.frozen 2
   have zf3 := hE.z.frozen 3
   have zf4 := hE.z.frozen 4
   have zf5 := hE.z.frozen 5
   have zf6 := hE.z.frozen 6
   have fc0 : wE.cell? ⟨w.heap.size + 1, 0, none⟩ = some (.int .i64 0) := hE.f.cell 0
   have fc1 : wE.cell? ⟨w.heap.size + 1, 1, none⟩ = some (.int .i64 0) := hE.f.cell 1
   have ff0 := hE.f.frozen 0
   have ff1 := hE.f.frozen 1
   obtain ⟨Z, hZ, qz, qf, qB, -⟩ := hE.done (.int .i64 0) (.string ⟨#[]⟩) (.int .i64 0) (.int .i64 0) (.int .i64 0) (.string ⟨#[]⟩) (.slice none 0 0) (.int .i64 3) (.int .i64 (-1))
   have HZ := Lib.hid hZ
   have HQZ := Lib.hid qz
   have HQF := Lib.hid qf
   have HQB := Lib.hid qB
   clear hZ qz qf qB hE hbE HBR HL
   go_wp2
   clear zc0 zc1 zc2 zc3 zc4 zc5 zc6 zf0 zf1 zf2 zf3 zf4 zf5 zf6 fc0 fc1 ff0 ff1
   rw [HZ.out]
   have r0 := HQZ.out.cell 0
   have r1 := HQZ.out.cell 1
   have r2 := HQZ.out.cell 2
   have r3 := HQZ.out.cell 3
   have r4 := HQZ.out.cell 4
   have r5 := HQZ.out.cell 5
   have r6 := HQZ.out.cell 6
   have s0 := HQF.out.cell 0
   have s1 := HQF.out.cell 1
   refine bodyPost_ret (v := .tuple #[.agg z7, .agg #[.int .i64 3, .int .i64 (-1)]]) (by simp [results, Tryz.results44, go_sem, r0, r1, r2, r3, r4, r5, r6, s0, s1]) rfl ?_
   exact ⟨zeroLn, none, 0, 3, -1, rfl, nsAt_nil _, rg_nil, fun g hg => by simp [Value.ownBlock] at hg, HQB.out, rfl, rfl, rfl⟩
theorem rline_pkg (s : ByteArray) (w : World) (hs : s.size <= 100000) (hw : Lb w) (hF : FineR w) (ad : Addr) (cap : Nat) (hK : KindsAt w ad cap) (hk : kindF (cutF s 32).1 = 1) (va vb vc : Nat) (hver : versF (cutF (cutF (cutF s 32).2 32).2 32).1 = .ok [va, vb, vc]) (hr : (cutF (cutF (cutF s 32).2 32).2 32).2.size = 0) : Calls Tryz.prog 44 #[.string s] w (RlRes w (.ok ⟨1, (cutF (cutF s 32).2 32).1, (va : Int), (vb : Int), (vc : Int), ⟨#[]⟩, []⟩)) := by
 have k0 := (Blk.new w 79 z7).alloc (.cells #[.int .i64 0, .int .i64 0] 26)
 have k1 := Blk.new (w.alloc (.cells z7 79)) 26 #[.int .i64 0, .int .i64 0]
 rw [World.size_alloc] at k1
 have hB0 : Below w.heap.size w ((w.alloc (.cells z7 79)).alloc (.cells #[.int .i64 0, .int .i64 0] 26)) := ((Below.refl _ w).alloc (Nat.le_refl _) _).alloc (by simp) _
 have HK0 := Lib.hid k0
 have HK1 := Lib.hid k1
 have HB0 := Lib.hid hB0
 have HN1 := Lib.hid (fun W => rnext_any s W hs)
 have hz2 := (cutF_size s 32).2
 have HLW := Lib.hid hw
 have HFN := Lib.hid hF
 have HKD := Lib.hid hK
 obtain ⟨w1, hw1⟩ : ∃ w1, (cutF s 32).1 = w1 := ⟨_, rfl⟩
 obtain ⟨s2, hs2⟩ : ∃ s2, (cutF s 32).2 = s2 := ⟨_, rfl⟩
 rw [hw1] at hk HN1
 rw [hs2] at hz2 HN1
 have hz2' : s2.size <= 100000 := by omega
 have HKX : Hid (∀ k, 1 <= k -> k <= 4 -> ((⟨(wl k).toArray⟩ : ByteArray).toList == w1.toList) = decide (kindF w1 = k)) := fun k h1 h4 => kind_lt h1 h4
 rw [hk] at HKX
 have HN2 := Lib.hid (fun W => rnext_any s2 W hz2')
 have hz3 := (cutF_size s2 32).2
 obtain ⟨nm, hnm⟩ : ∃ nm, (cutF s2 32).1 = nm := ⟨_, rfl⟩
 obtain ⟨s3, hs3⟩ : ∃ s3, (cutF s2 32).2 = s3 := ⟨_, rfl⟩
 rw [hnm] at HN2
 rw [hs3] at hz3 HN2
 have hz3' : s3.size <= 100000 := by omega
 have HN3 := Lib.hid (fun W => rnext_any s3 W hz3')
 have hz4 := cutF_size s3 32
 obtain ⟨vw, hvw⟩ : ∃ vw, (cutF s3 32).1 = vw := ⟨_, rfl⟩
 obtain ⟨s4, hs4⟩ : ∃ s4, (cutF s3 32).2 = s4 := ⟨_, rfl⟩
 rw [hvw, hs4] at hz4 HN3
 have hz4' : s4.size <= 100000 := by omega
 have HVP0 : ∀ W, Below w.heap.size w W -> Calls Tryz.prog 97 #[.string vw] W fun e w' => e = .returned (rversV (versF vw)) /\ Below W.heap.size W w' := fun W hb => rvparse_any splitC vw W (by omega) (hw.below hb)
 rw [hs2, hs3, hvw] at hver
 rw [hver] at HVP0
 have HVP : Hid (∀ W, Below w.heap.size w W -> Calls Tryz.prog 97 #[.string vw] W fun e w' => e = .returned (.tuple #[.agg #[.int .i64 (va : Int), .int .i64 (vb : Int), .int .i64 (vc : Int)], .int .i64 0]) /\ Below W.heap.size W w') := HVP0
 clear HVP0 hver
 rw [hs2, hs3, hs4] at hr
 rw [hs2, hnm]
 have hrb : (s4.toList == []) = true := by
  rw [beq_iff_eq, ByteArray.toList_eq]
  exact List.length_eq_zero_iff.1 (by rw [Array.length_toList]; exact hr)
 clear hz3 hz4 hnm hs3 hvw hr hs4
 clear k0 k1 hB0 hw hF hK hz2 hs
 go_enter Tryz.func44, Tryz.ntmps44
 go_wp2_with fail
 generalize (w.alloc (.cells z7 79)).alloc (.cells #[.int .i64 0, .int .i64 0] 26) = W0 at *
 refine (HN1.out _).mono ?_
 rintro e wA ⟨rfl, hbA⟩
 have hx := Blk.new wA 79 z7
 have hA : Below wA.heap.size wA (wA.alloc (.cells z7 79)) := (Below.refl _ _).alloc (Nat.le_refl _) _
 have hA0 : Below W0.heap.size W0 (wA.alloc (.cells z7 79)) := hbA.trans (hA.mono hbA.size)
 have hLR : LR w (wA.alloc (.cells z7 79)) wA.heap.size z7 := ⟨HK0.out.below hA0 HK0.out.lt, HK1.out.below hA0 HK1.out.lt, hx, Nat.lt_of_lt_of_le HK1.out.lt hbA.size, HB0.out.trans (hA0.mono HB0.out.size)⟩
 have HLR := Lib.hid hLR
 clear hbA hx hA hA0 hLR HN1 HK0 HK1 HB0
 go_wp2_with fail
 generalize wA.alloc (.cells z7 79) = W1 at *
 obtain ⟨b, hb⟩ : ∃ b, wA.heap.size = b := ⟨_, rfl⟩
 rw [hb] at HLR ⊢
 clear hb
 go_loopw [7] (fun kV wr => ∃ k : Nat, 1 <= k /\ k <= 5 /\ kV = .int .i64 (k : Int) /\ LR w wr b (x7 (kup 1 k) ⟨#[]⟩ 0 0 0 ⟨#[]⟩ (.slice none 0 0))) (fun kV _ => 5 - (intOf kV).toNat)
 case atStart => exact ⟨1, by omega, by omega, rfl, by rw [show kup 1 1 = 0 by unfold kup; split <;> omega]; exact HLR.out⟩
 case round =>
  clear HLR
  obtain ⟨k, hk1, hk5, rfl, hLR⟩ := hrel
  have HL := Lib.hid hLR
  clear hLR
  by_cases hlt : k <= 4
  ·have hkd := HKD.out.below HL.out.B
   have g0 := hkd.c
   have g1 := hkd.s k (by omega)
   have hc := HKX.out k hk1 hlt
   have x0 : wr.cell? ⟨b, 0, none⟩ = some (.int .i64 ((kup 1 k : Nat) : Int)) := HL.out.x.cell 0
   have xf := HL.out.x.frozen 0
   clear hkd
   by_cases he : 1 = k
   ·have hst := HL.out.set 0 (.int .i64 (k : Int))
    have HST : Hid (LR w (wr.setCell ⟨b, 0, none⟩ (.int .i64 (k : Int))) b (x7 (kup 1 (k + 1)) ⟨#[]⟩ 0 0 0 ⟨#[]⟩ (.slice none 0 0))) := by
     have e : kup 1 (k + 1) = k := by unfold kup; rw [if_pos (by omega)]; exact he
     rw [e]; exact hst
    rw [decide_eq_true he] at hc
    generalize kup 1 k = KU at *
    generalize (⟨(wl k).toArray⟩ : ByteArray) = WK at *
    clear hst he
    go_wp2
    go_roundw
    case rel => exact ⟨k + 1, by omega, by omega, by go_num, HST.out⟩
    case measure => simp [intOf]; omega
   ·have HST : Hid (LR w wr b (x7 (kup 1 (k + 1)) ⟨#[]⟩ 0 0 0 ⟨#[]⟩ (.slice none 0 0))) := by
     have e : kup 1 (k + 1) = kup 1 k := by
      unfold kup
      by_cases h : 1 < k
      ·rw [if_pos h, if_pos (by omega)]
      ·rw [if_neg h, if_neg (by omega)]
     rw [e]; exact HL.out
    rw [decide_eq_false he] at hc
    generalize kup 1 k = KU at *
    generalize (⟨(wl k).toArray⟩ : ByteArray) = WK at *
    clear he
    go_wp2
    go_roundw
    case rel => exact ⟨k + 1, by omega, by omega, by go_num, HST.out⟩
    case measure => simp [intOf]; omega
  ·obtain rfl : k = 5 := by omega
   have hku : kup 1 5 = 1 := by unfold kup; rw [if_pos (by omega)]
   rw [hku] at HL
   clear hku
   have xc0 : wr.cell? ⟨b, 0, none⟩ = some (.int .i64 (1 : Int)) := HL.out.x.cell 0
   go_wp2_with fail
   refine (HN2.out _).mono ?_
   rintro e wB ⟨rfl, hb⟩
   have HLB := Lib.hid (HL.out.step hb)
   clear hb HN2 HL
   have xb0 : wB.cell? ⟨b, 0, none⟩ = some (.int .i64 1) := HLB.out.x.cell 0
   have xb1 : wB.cell? ⟨b, 1, none⟩ = some (.string ⟨#[]⟩) := HLB.out.x.cell 1
   have xg1 := HLB.out.x.frozen 1
   have HL2 : Hid (LR w (wB.setCell ⟨b, 1, none⟩ (.string nm)) b (x7 1 nm 0 0 0 ⟨#[]⟩ (.slice none 0 0))) := HLB.out.set 1 (.string nm)
   have y0 : (wB.setCell ⟨b, 1, none⟩ (.string nm)).cell? ⟨b, 0, none⟩ = some (.int .i64 1) := HL2.out.x.cell 0
   clear HLB xc0
   go_wp2_with fail
   generalize wB.setCell ⟨b, 1, none⟩ (.string nm) = W2 at *
   clear xb0 xb1 xg1
   refine (HN3.out _).mono ?_
   rintro e wC ⟨rfl, hb⟩
   have HL3 := Lib.hid (HL2.out.step hb)
   have HV3 := Lib.hid (HVP.out _ HL3.out.B)
   clear hb HN3 HL2 y0 HVP
   go_wp2_with fail
   refine HV3.out.mono ?_
   rintro e wD ⟨rfl, hb⟩
   have HL4 := Lib.hid (HL3.out.step hb)
   have kv := Blk.new wD 48 #[.int .i64 (va : Int), .int .i64 (vb : Int), .int .i64 (vc : Int)]
   have hbv : Below wD.heap.size wD (wD.alloc (.cells #[.int .i64 (va : Int), .int .i64 (vb : Int), .int .i64 (vc : Int)] 48)) := (Below.refl _ _).alloc (Nat.le_refl _) _
   have HL := Lib.hid (HL4.out.step hbv)
   have HKV := Lib.hid kv
   clear hb hbv HL3 HL4 HV3 kv
   have v0 := HKV.out.cell 0
   have v1 := HKV.out.cell 1
   have v2 := HKV.out.cell 2
   have e0 : (wD.alloc (.cells #[.int .i64 (va : Int), .int .i64 (vb : Int), .int .i64 (vc : Int)] 48)).cell? ⟨b, 0, none⟩ = some (.int .i64 1) := HL.out.x.cell 0
   have e2 : (wD.alloc (.cells #[.int .i64 (va : Int), .int .i64 (vb : Int), .int .i64 (vc : Int)] 48)).cell? ⟨b, 2, none⟩ = some (.int .i64 0) := HL.out.x.cell 2
   have e3 : (wD.alloc (.cells #[.int .i64 (va : Int), .int .i64 (vb : Int), .int .i64 (vc : Int)] 48)).cell? ⟨b, 3, none⟩ = some (.int .i64 0) := HL.out.x.cell 3
   have e4 : (wD.alloc (.cells #[.int .i64 (va : Int), .int .i64 (vb : Int), .int .i64 (vc : Int)] 48)).cell? ⟨b, 4, none⟩ = some (.int .i64 0) := HL.out.x.cell 4
   have e2f := HL.out.x.frozen 2
   have e3f := HL.out.x.frozen 3
   have e4f := HL.out.x.frozen 4
   have hz5 := (((HL.out.set 2 (.int .i64 (va : Int))).set 3 (.int .i64 (vb : Int))).set 4 (.int .i64 (vc : Int)))
   have HX5 : Hid (LR w ((((wD.alloc (.cells #[.int .i64 (va : Int), .int .i64 (vb : Int), .int .i64 (vc : Int)] 48)).setCell ⟨b, 2, none⟩ (.int .i64 (va : Int))).setCell ⟨b, 3, none⟩ (.int .i64 (vb : Int))).setCell ⟨b, 4, none⟩ (.int .i64 (vc : Int))) b (x7 1 nm (va : Int) (vb : Int) (vc : Int) ⟨#[]⟩ (.slice none 0 0))) := hz5
   have m0 : ((((wD.alloc (.cells #[.int .i64 (va : Int), .int .i64 (vb : Int), .int .i64 (vc : Int)] 48)).setCell ⟨b, 2, none⟩ (.int .i64 (va : Int))).setCell ⟨b, 3, none⟩ (.int .i64 (vb : Int))).setCell ⟨b, 4, none⟩ (.int .i64 (vc : Int))).cell? ⟨b, 0, none⟩ = some (.int .i64 1) := hz5.x.cell 0
   clear hz5 HL
   go_upto_region 17 with fail
   obtain ⟨W5, hW5⟩ : ∃ W5, ((((wD.alloc (.cells #[.int .i64 (va : Int), .int .i64 (vb : Int), .int .i64 (vc : Int)] 48)).setCell ⟨b, 2, none⟩ (.int .i64 (va : Int))).setCell ⟨b, 3, none⟩ (.int .i64 (vb : Int))).setCell ⟨b, 4, none⟩ (.int .i64 (vc : Int))) = W5 := ⟨_, rfl⟩
   rw [hW5] at HX5 m0 ⊢
   clear hW5 v0 v1 v2 e0 e2 e3 e4 e2f e3f e4f HKV
   have HE := HX5
   clear HX5
   have hfn := HFN.out.below HE.out.B
   have gf0 : W5.cell? ⟨0, 0, none⟩ = some (.int .i64 0) := hfn.c0
   have gf1 : W5.cell? ⟨0, 1, none⟩ = some (.int .i64 (-1)) := hfn.c1
   have hbne := HE.out.ne
   have hlw := HFN.out.lt
   have n1 : ¬ 0 = w.heap.size := by omega
   have n2 : ¬ b = w.heap.size := by omega
   have n3 : ¬ b = w.heap.size + 1 := by omega
   have n4 : ¬ w.heap.size = 0 := by omega
   clear hbne hlw
   have zc0 : W5.cell? ⟨w.heap.size, 0, none⟩ = some (.int .i64 0) := HE.out.z.cell 0
   have zc1 : W5.cell? ⟨w.heap.size, 1, none⟩ = some (.string ⟨#[]⟩) := HE.out.z.cell 1
   have zc2 : W5.cell? ⟨w.heap.size, 2, none⟩ = some (.int .i64 0) := HE.out.z.cell 2
   have zc3 : W5.cell? ⟨w.heap.size, 3, none⟩ = some (.int .i64 0) := HE.out.z.cell 3
   have zc4 : W5.cell? ⟨w.heap.size, 4, none⟩ = some (.int .i64 0) := HE.out.z.cell 4
   have zc5 : W5.cell? ⟨w.heap.size, 5, none⟩ = some (.string ⟨#[]⟩) := HE.out.z.cell 5
   have zc6 : W5.cell? ⟨w.heap.size, 6, none⟩ = some (.slice none 0 0) := HE.out.z.cell 6
   have zf0 := HE.out.z.frozen 0
   have zf1 := HE.out.z.frozen 1
   have zf2 := HE.out.z.frozen 2
   have zf3 := HE.out.z.frozen 3
   have zf4 := HE.out.z.frozen 4
   have zf5 := HE.out.z.frozen 5
   have zf6 := HE.out.z.frozen 6
   have fc0 : W5.cell? ⟨w.heap.size + 1, 0, none⟩ = some (.int .i64 0) := HE.out.f.cell 0
   have fc1 : W5.cell? ⟨w.heap.size + 1, 1, none⟩ = some (.int .i64 0) := HE.out.f.cell 1
   have ff0 := HE.out.f.frozen 0
   have ff1 := HE.out.f.frozen 1
   have xx0 : W5.cell? ⟨b, 0, none⟩ = some (.int .i64 1) := HE.out.x.cell 0
   have xx1 : W5.cell? ⟨b, 1, none⟩ = some (.string nm) := HE.out.x.cell 1
   have xx2 : W5.cell? ⟨b, 2, none⟩ = some (.int .i64 (va : Int)) := HE.out.x.cell 2
   have xx3 : W5.cell? ⟨b, 3, none⟩ = some (.int .i64 (vb : Int)) := HE.out.x.cell 3
   have xx4 : W5.cell? ⟨b, 4, none⟩ = some (.int .i64 (vc : Int)) := HE.out.x.cell 4
   have xx5 : W5.cell? ⟨b, 5, none⟩ = some (.string ⟨#[]⟩) := HE.out.x.cell 5
   have xx6 : W5.cell? ⟨b, 6, none⟩ = some (.slice none 0 0) := HE.out.x.cell 6
   obtain ⟨Z, hZ, qz, qf, qB, qN⟩ := HE.out.done (.int .i64 1) (.string nm) (.int .i64 (va : Int)) (.int .i64 (vb : Int)) (.int .i64 (vc : Int)) (.string ⟨#[]⟩) (.slice none 0 0) (.int .i64 0) (.int .i64 (-1))
   have HZ := Lib.hid hZ
   have HQZ := Lib.hid qz
   have HQF := Lib.hid qf
   have HQB := Lib.hid qB
   have HQN := Lib.hid qN
   clear hZ qz qf qB qN hfn
   go_wp2_with fail
   go_big_region
   clear gf0 gf1 n1 n2 n3 n4
   clear zc0 zc1 zc2 zc3 zc4 zc5 zc6 zf0 zf1 zf2 zf3 zf4 zf5 zf6 fc0 fc1 ff0 ff1
   clear xx0 xx1 xx2 xx3 xx4 xx5 xx6
   rw [HZ.out]
   go_wp2
   have r0 := HQZ.out.cell 0
   have r1 := HQZ.out.cell 1
   have r2 := HQZ.out.cell 2
   have r3 := HQZ.out.cell 3
   have r4 := HQZ.out.cell 4
   have r5 := HQZ.out.cell 5
   have r6 := HQZ.out.cell 6
   have s0 := HQF.out.cell 0
   have s1 := HQF.out.cell 1
   refine bodyPost_ret (v := .tuple #[.agg #[.int .i64 1, .string nm, .int .i64 (va : Int), .int .i64 (vb : Int), .int .i64 (vc : Int), .string ⟨#[]⟩, (.slice none 0 0)], .agg #[.int .i64 0, .int .i64 (-1)]]) (by simp [results, Tryz.results44, go_sem, r0, r1, r2, r3, r4, r5, r6, s0, s1]) rfl ?_
   refine ⟨⟨1, nm, (va : Int), (vb : Int), (vc : Int), ⟨#[]⟩, []⟩, none, 0, 0, -1, rfl, nsAt_nil _, rg_nil, fun g hg => by simp [Value.ownBlock] at hg, HQB.out.drew, rfl, rfl, rfl⟩
end Go.Proofs.YtmhophccdfmngaaGreatDoor
namespace Go.Proofs
open Go.Shelf
theorem Tryz.laysWS : Go.Proofs.Lays.n166 Tryz.prog Tryz.lays156_ren := {
 mixed := Tryz.lays156.mixed
 f166 := Tryz.lays156.f166
 f240 := Tryz.lays156.f240
 f276 := Tryz.lays156.f276
 t0 := Tryz.lays156.t0
 a0 := Tryz.lays156.a0
 z0 := Tryz.lays156.z0
 v0 := Tryz.lays156.v0
 t3 := Tryz.lays156.t3
 a3 := Tryz.lays156.a3
 z3 := Tryz.lays156.z3
 v3 := Tryz.lays156.v3
 t4 := Tryz.lays156.t4
 a4 := Tryz.lays156.a4
 z4 := Tryz.lays156.z4
 v4 := Tryz.lays156.v4
 t9 := Tryz.lays156.t9
 a9 := Tryz.lays156.a9
 z9 := Tryz.lays156.z9
 v9 := Tryz.lays156.v9
 t20 := Tryz.lays156.t20
 a20 := Tryz.lays156.a20
 z20 := Tryz.lays156.z20
 v20 := Tryz.lays156.v20
 t37 := Tryz.lays156.t37
 a37 := Tryz.lays156.a37
 z37 := Tryz.lays156.z37
 v37 := Tryz.lays156.v37
 t70 := Tryz.lays156.t70
 a70 := Tryz.lays156.a70
 z70 := Tryz.lays156.z70
 v70 := Tryz.lays156.v70
 t72 := Tryz.lays156.t72
 a72 := Tryz.lays156.a72
 z72 := Tryz.lays156.z72
 v72 := Tryz.lays156.v72
 t75 := Tryz.lays156.t75
 a75 := Tryz.lays156.a75
 z75 := Tryz.lays156.z75
 v75 := Tryz.lays156.v75
 t164 := Tryz.lays156.t164
 a164 := Tryz.lays156.a164
 z164 := Tryz.lays156.z164
 v164 := Tryz.lays156.v164 }
def Tryz.laysWB_ren : Go.Shelf.Ren := ⟨fun | 167 => 91 | n => Tryz.lays156_ren.f n, Tryz.lays156_ren.t, Tryz.lays156_ren.g⟩
theorem Tryz.laysWB : Go.Proofs.Lays.n167 Tryz.prog Tryz.laysWB_ren := {
 mixed := Tryz.lays156.mixed
 f167 := Tryz.func91.trans (congrArg some (by kernel_rfl))
 f240 := Tryz.lays156.f240
 f276 := Tryz.lays156.f276
 t0 := Tryz.lays156.t0
 a0 := Tryz.lays156.a0
 z0 := Tryz.lays156.z0
 v0 := Tryz.lays156.v0
 t4 := Tryz.lays156.t4
 a4 := Tryz.lays156.a4
 z4 := Tryz.lays156.z4
 v4 := Tryz.lays156.v4
 t5 := Tryz.underlying5
 a5 := Tryz.isAgg5
 z5 := Tryz.sizeOf5
 v5 := Tryz.zeroValue5
 t9 := Tryz.lays156.t9
 a9 := Tryz.lays156.a9
 z9 := Tryz.lays156.z9
 v9 := Tryz.lays156.v9
 t20 := Tryz.lays156.t20
 a20 := Tryz.lays156.a20
 z20 := Tryz.lays156.z20
 v20 := Tryz.lays156.v20
 t37 := Tryz.lays156.t37
 a37 := Tryz.lays156.a37
 z37 := Tryz.lays156.z37
 v37 := Tryz.lays156.v37
 t70 := Tryz.lays156.t70
 a70 := Tryz.lays156.a70
 z70 := Tryz.lays156.z70
 v70 := Tryz.lays156.v70
 t72 := Tryz.lays156.t72
 a72 := Tryz.lays156.a72
 z72 := Tryz.lays156.z72
 v72 := Tryz.lays156.v72
 t75 := Tryz.lays156.t75
 a75 := Tryz.lays156.a75
 z75 := Tryz.lays156.z75
 v75 := Tryz.lays156.v75
 t164 := Tryz.lays156.t164
 a164 := Tryz.lays156.a164
 z164 := Tryz.lays156.z164
 v164 := Tryz.lays156.v164 }
end Go.Proofs
namespace Go.Proofs.YtmhophccdfmngaaGreatDoor
open Go.RowKit Go.Shelf Sv
def Bd (B b : Nat) (l : List UInt8) (w : World) : Prop := Lib.IsBuilderF 125 5 B b (Lib.byteCells l) w
theorem bdAt_below {B b c : Nat} {p : Value} {bs : List Value} {w w' : World} (h : Lib.BuilderAtF 125 5 B b p bs w) (hb : Below c w w') (hc : w.heap.size <= c) : Lib.BuilderAtF 125 5 B b p bs w' := by
 obtain ⟨h1, v, h2, h3, h4⟩ := h
 have hlt : b < w.heap.size := (Array.getElem?_eq_some_iff.1 h2).1
 refine ⟨h1, v, (hb.block b (by omega)).trans h2, ⟨h3.1, ?_⟩, h4⟩
 rcases h3.2 with e | ⟨g, cap, cur, fz, e1, e2, e3, e4⟩
 ·exact .inl e
 ·exact .inr ⟨g, cap, cur, fz, e1, e2, (hb.block g (by have := (Array.getElem?_eq_some_iff.1 e3).1; omega)).trans e3, e4⟩
theorem Bd.below {B b c : Nat} {l : List UInt8} {w w' : World} (h : Bd B b l w) (hb : Below c w w') (hc : w.heap.size <= c) : Bd B b l w' :=
 Or.imp (fun h => bdAt_below h hb hc) (fun h => bdAt_below h hb hc) h
theorem bd_new (w : World) : Bd w.heap.size w.heap.size [] (w.alloc (.cells #[.pointer none, .slice none 0 0] 125)) :=
 Or.inl ⟨Nat.le_refl _, .slice none 0 0, World.alloc_heap_new w _, World.ownsRowF_nil _ _ _ _, by simp [Value.ownBlock]⟩
theorem bws (B b : Nat) (l s : List UInt8) (w : World) (h : Bd B b l w) (hlen : l.length + s.length <= 100000000000) (hB : B <= w.heap.size) :
  Calls Tryz.prog 65 #[.pointer (some ⟨b, 0, none⟩), .string ⟨s.toArray⟩] w fun e w' => (∃ x, e = .returned (.tuple #[.int .i64 x, .nilIface])) /\ Bd B b (l ++ s) w' /\ Below B w w' /\ Lib.OthersKept 5 (some b) w w' :=
 (Any.Builder_WriteString_k Tryz.laysWS Tryz.Builder_Extra_156 B b (Lib.byteCells l) ⟨s.toArray⟩ w h (by rw [Lib.byteCells_length]; show l.length + s.toArray.size <= _; simp; omega) hB).mono fun _ _ ⟨h1, h2, h3, h4⟩ => ⟨⟨_, h1⟩, Or.inr (by rw [Lib.byteCells_append]; exact h2), h3, h4⟩
theorem bstr (B b : Nat) (l : List UInt8) (w : World) (h : Bd B b l w) (hB : B <= w.heap.size) :
  Calls Tryz.prog 67 #[.pointer (some ⟨b, 0, none⟩)] w fun e w' => e = .returned (.string ⟨l.toArray⟩) /\ Below B w w' :=
 (Tryz.Builder_String_any_k B b l w h hB).mono fun _ _ ⟨h1, _, h3, _⟩ => ⟨h1, h3⟩
theorem blk_others {b k : Nat} {t : TypeId} {cs : Array Value} {w w' : World} (h : Blk w k t cs) (ho : Lib.OthersKept 5 (some b) w w') (hk : k ≠ b) (ht : t ≠ 5) : Blk w' k t cs :=
 ho k _ h (fun e => hk (Option.some.inj e)) (fun c fz e => by cases e; exact ht rfl)
def wrT (l : List Span) : List UInt8 := Lib.join (l.map spanT) sepT
theorem wrT_snoc (l : List Span) (k : Nat) (hk : k < l.length) : wrT (l.take (k + 1)) = wrT (l.take k) ++ ((if k = 0 then [] else sepT) ++ spanT (sp l k)) := by
 unfold wrT
 rw [List.take_succ_eq_append_getElem hk, List.map_append, sp_at l k hk]
 cases hl : l.take k with
 | nil =>
  have hk0 : k = 0 := by
   have := congrArg List.length hl
   rw [List.length_take] at this
   simp at this
   rcases this with h | h
   ·exact h
   ·subst h; simp at hk
  rw [if_pos hk0]
  simp [Lib.join_one, Lib.join_nil]
 | cons a r =>
  have hk0 : k ≠ 0 := fun e => by rw [e] at hl; simp at hl
  rw [if_neg hk0]
  simp only [List.map_cons, List.map_nil, List.cons_append, Lib.join_cons, Lib.joinTail, List.map_append, List.flatten_append]
  simp
theorem wrT_len {l : List Span} (hl : Rg l) : ∀ k, (wrT (l.take k)).length <= 200 * k := by
 intro k
 induction k with
 | zero => simp [wrT, Lib.join_nil]
 | succ k ih =>
  by_cases hk : k < l.length
  ·rw [wrT_snoc l k hk, List.length_append, List.length_append]
   have h1 := canon_at hl k hk
   have h2 := spanT_len (s := sp l k) (by omega) h1.2
   have h3 : (if k = 0 then [] else sepT).length <= 4 := by split <;> simp [sepT]
   omega
  ·rw [List.take_of_length_le (by omega)]
   rw [List.take_of_length_le (by omega)] at ih
   omega
theorem ptext_any (l : List Span) (hl : Rg l) (v : Value) (w : World) (hw : Lb w) (hv : SpAt w v l) :
  Calls Tryz.prog 16 #[.agg #[v]] w fun e w' => e = .returned (.string ⟨(rgT l).toArray⟩) /\ Below w.heap.size w w' := by
 obtain ⟨a, cap, rfl⟩ := hv.form
 have hlen := rg_len hl
 have k0 := Blk.new w 31 #[.slice a l.length cap]
 have hB0 : Below w.heap.size w (w.alloc (.cells #[.slice a l.length cap] 31)) := (Below.refl _ w).alloc (Nat.le_refl _) _
 have HB0 := Lib.hid hB0
 have HK0 := Lib.hid k0
 have HE : Hid (∀ W, Below w.heap.size w W -> Calls Tryz.prog 15 #[.agg #[.slice a l.length cap]] W fun e w' => e = .returned (.bool (decide (l = []))) /\ Below W.heap.size W w') := fun W hb => empty_any l _ W (hv.below hb (Nat.le_refl _))
 clear k0 hB0
 by_cases hz : l = []
 ·have hR : rgT l = [110, 111, 110, 101] := if_pos hz
  have hl0 : decide (l = []) = true := decide_eq_true hz
  rw [hl0] at HE
  clear hz hv
  go_enter Tryz.func16, Tryz.ntmps16
  go_wp2_with fail
  generalize w.alloc (.cells #[.slice a l.length cap] 31) = W0 at *
  refine (HE.out _ HB0.out).mono ?_
  rintro e w1 ⟨rfl, hb1⟩
  have HB1 : Hid (Below w.heap.size w w1) := HB0.out.trans (hb1.mono HB0.out.size)
  clear hb1
  go_wp2
  go_ret
  exact ⟨by rw [hR]; rfl, HB1.out⟩
 ·have HR : Hid (rgT l = wrT (l.take l.length)) := by show _ = _; rw [List.take_length]; exact if_neg hz
  have hl0 : decide (l = []) = false := decide_eq_false hz
  rw [hl0] at HE
  have HV := Lib.hid hv
  have HW := Lib.hid hw
  have HSN := Lib.hid (wrT_snoc l)
  have HWL := Lib.hid (wrT_len hl)
  have HAT := Lib.hid (canon_at hl)
  clear hz hv hw hl0
  generalize rgT l = RT at *
  go_enter Tryz.func16, Tryz.ntmps16
  go_wp2_with fail
  generalize w.alloc (.cells #[.slice a l.length cap] 31) = W0 at *
  refine (HE.out _ HB0.out).mono ?_
  rintro e w1 ⟨rfl, hb1⟩
  have HB1 : Hid (Below w.heap.size w w1) := HB0.out.trans (hb1.mono HB0.out.size)
  have k1 := HK0.out.below hb1 HK0.out.lt
  have c0 : (w1.alloc (.cells #[.pointer none, .slice none 0 0] 125)).cell? ⟨w.heap.size, 0, none⟩ = some (.slice a l.length cap) := (k1.alloc _).cell 0
  have hbd := bd_new w1
  have hw1 := HB1.out.size
  clear hb1 HE HK0 k1 HB0
  go_wp2_with fail
  obtain ⟨W1, hW1⟩ : ∃ W1, w1.alloc (.cells #[.pointer none, .slice none 0 0] 125) = W1 := ⟨_, rfl⟩
  have hs1 : W1.heap.size = w1.heap.size + 1 := by rw [<- hW1]; simp
  have HB2 : Hid (Below w1.heap.size w1 W1) := by rw [<- hW1]; exact (Below.refl _ _).alloc (Nat.le_refl _) _
  rw [hW1] at hbd ⊢
  have HBD := Lib.hid hbd
  have HS1 := Lib.hid hs1
  clear hbd hW1 hs1 c0
  go_loopw [11] (fun kV wz => ∃ k : Nat, k <= l.length /\ kV = .int .i64 (k : Int) /\ Bd w1.heap.size w1.heap.size (wrT (l.take k)) wz /\ Below w1.heap.size w1 wz) (fun kV _ => l.length - (intOf kV).toNat)
  case atStart => exact ⟨0, Nat.zero_le _, rfl, by simpa [wrT, Lib.join_nil] using HBD.out, HB2.out⟩
  case round =>
   obtain ⟨k, hk, rfl, hbd, hbr⟩ := hrel
   have HBD2 := Lib.hid hbd
   have HBR := Lib.hid hbr
   have hwz := hbr.size
   clear hbd hbr
   by_cases hlt : k < l.length
   ·have hB : Below w.heap.size w wr := HB1.out.trans (HBR.out.mono HB1.out.size)
    obtain ⟨g, cap', e1, hg, cx, cy⟩ := (HV.out.below hB (Nat.le_refl _)).cells k hlt
    simp at e1
    obtain ⟨rfl, rfl⟩ := e1
    obtain ⟨hx1, hx2⟩ := HAT.out k hlt
    have hsn := HSN.out k hlt
    have hln := HWL.out (k + 1)
    rw [hsn, List.length_append, List.length_append] at hln
    have HST : Hid (∀ W, Below w.heap.size w W -> Calls Tryz.prog 66 #[.agg #[.int .i64 ((sp l k).1 : Int), .int .i64 ((sp l k).2 : Int)]] W fun e w' => e = .returned (.string ⟨(spanT (sp l k)).toArray⟩) /\ Below W.heap.size W w') := fun W hb => spanText_any (sp l k) hx1 hx2 W (HW.out.below hb)
    have kb := Blk.new wr 127 #[.int .i64 ((sp l k).1 : Int), .int .i64 ((sp l k).2 : Int)]
    have hA : Below wr.heap.size wr (wr.alloc (.cells #[.int .i64 ((sp l k).1 : Int), .int .i64 ((sp l k).2 : Int)] 127)) := (Below.refl _ _).alloc (Nat.le_refl _) _
    have HBA : Hid (Bd w1.heap.size w1.heap.size (wrT (l.take k)) (wr.alloc (.cells #[.int .i64 ((sp l k).1 : Int), .int .i64 ((sp l k).2 : Int)] 127))) := HBD2.out.below hA (Nat.le_refl _)
    have HBW : Hid (Below w1.heap.size w1 (wr.alloc (.cells #[.int .i64 ((sp l k).1 : Int), .int .i64 ((sp l k).2 : Int)] 127))) := HBR.out.trans (hA.mono hwz)
    have HKB := Lib.hid kb
    have hlt1 : w1.heap.size < wr.heap.size := HBD2.out.elim (fun h => h.lt) (fun h => h.lt)
    clear kb hA hB HBD2 HBR hx1 hx2
    generalize (sp l k).1 = X at *
    generalize (sp l k).2 = Y at *
    generalize spanT (sp l k) = ST at *
    by_cases hk0 : k = 0
    ·have hk0' : ¬ (0 : Int) < (k : Int) := by omega
     rw [if_pos hk0, List.nil_append] at hsn
     have HSN1 := Lib.hid hsn
     have hln2 : (wrT (l.take k)).length + ST.length <= 100000000000 := by omega
     clear hsn hln hk0
     go_wp2_with fail
     generalize wr.alloc (.cells #[.int .i64 (X : Int), .int .i64 (Y : Int)] 127) = W2 at *
     have c0 := HKB.out.cell 0
     have c1 := HKB.out.cell 1
     go_wp2_with fail
     refine (HST.out _ (HB1.out.trans (HBW.out.mono HB1.out.size))).mono ?_
     rintro e w3 ⟨rfl, hb3⟩
     have HBA3 := Lib.hid (HBA.out.below hb3 (Nat.le_refl _))
     have HBW3 : Hid (Below w1.heap.size w1 w3) := HBW.out.trans (hb3.mono HBW.out.size)
     have HWS := Lib.hid (bws _ _ _ ST w3 HBA3.out hln2 HBW3.out.size)
     clear hb3 HBA HBW HST HBA3 c0 c1 HKB
     go_wp2_with fail
     refine HWS.out.mono ?_
     rintro e w4 ⟨⟨x4, rfl⟩, hd4, hb4, -⟩
     have HD4 : Hid (Bd w1.heap.size w1.heap.size (wrT (l.take (k + 1))) w4) := by rw [HSN1.out]; exact hd4
     have HB4 : Hid (Below w1.heap.size w1 w4) := HBW3.out.trans hb4
     clear hd4 hb4 HWS HSN1
     go_wp2
     go_roundw
     case rel => exact ⟨k + 1, by omega, by go_num, HD4.out, HB4.out⟩
     case measure => simp [intOf]; omega
    ·have hk0' : (0 : Int) < (k : Int) := by omega
     rw [if_neg hk0] at hsn hln
     rw [<- List.append_assoc] at hsn
     have HSN1 := Lib.hid hsn
     have hln2 : (wrT (l.take k) ++ sepT).length + ST.length <= 100000000000 := by rw [List.length_append]; omega
     have hln3 : (wrT (l.take k)).length + sepT.length <= 100000000000 := by omega
     have HWP := Lib.hid (bws _ _ _ sepT _ HBA.out hln3 HBW.out.size)
     clear hsn hln hk0
     go_wp2_with fail
     generalize wr.alloc (.cells #[.int .i64 (X : Int), .int .i64 (Y : Int)] 127) = W2 at *
     refine HWP.out.mono ?_
     rintro e w5 ⟨⟨x5, rfl⟩, hd5, hb5, ho5⟩
     have kb5 := blk_others HKB.out ho5 (by omega) (by decide)
     have c0 := kb5.cell 0
     have c1 := kb5.cell 1
     have HBW5 : Hid (Below w1.heap.size w1 w5) := HBW.out.trans hb5
     have HD5 := Lib.hid hd5
     clear hd5 hb5 ho5 kb5 HWP HBA HBW HKB
     go_wp2_with fail
     refine (HST.out _ (HB1.out.trans (HBW5.out.mono HB1.out.size))).mono ?_
     rintro e w3 ⟨rfl, hb3⟩
     have HBA3 := Lib.hid (HD5.out.below hb3 (Nat.le_refl _))
     have HBW3 : Hid (Below w1.heap.size w1 w3) := HBW5.out.trans (hb3.mono HBW5.out.size)
     have HWS := Lib.hid (bws _ _ _ ST w3 HBA3.out hln2 HBW3.out.size)
     clear hb3 HBW5 HST HBA3 c0 c1 HD5
     go_wp2_with fail
     refine HWS.out.mono ?_
     rintro e w4 ⟨⟨x4, rfl⟩, hd4, hb4, -⟩
     have HD4 : Hid (Bd w1.heap.size w1.heap.size (wrT (l.take (k + 1))) w4) := by rw [HSN1.out]; exact hd4
     have HB4 : Hid (Below w1.heap.size w1 w4) := HBW3.out.trans hb4
     clear hd4 hb4 HWS HSN1
     go_wp2
     go_roundw
     case rel => exact ⟨k + 1, by omega, by go_num, HD4.out, HB4.out⟩
     case measure => simp [intOf]; omega
   ·obtain rfl : k = l.length := by omega
    have hb := HBD2.out
    rw [<- HR.out] at hb
    have HFIN := Lib.hid (bstr _ _ _ _ hb hwz)
    clear hb HBD2
    go_wp2_with fail
    refine HFIN.out.mono ?_
    rintro e w3 ⟨rfl, hb3⟩
    have HBZ : Hid (Below w.heap.size w w3) := HB1.out.trans ((HBR.out.trans hb3).mono HB1.out.size)
    clear hb3
    go_wp2
    go_ret
    exact ⟨rfl, HBZ.out⟩
end Go.Proofs.YtmhophccdfmngaaGreatDoor
