/- ImageBack: the law. -/
import Derived.Test.YtcjjekhecjmaeaaGreatDoorBdBelowW
import Derived.Test.YtcjjekhecjmaeaaGreatDoorBdWithout
import Derived.Test.YtcjjekhecjmaeaaGreatDoorBdBelow
import Derived.Test.YtcjjekhecjmaeaaGreatDoorArTop
import Derived.Test.YtcjjekhecjmaeaaGreatDoorCnOf
import Derived.Test.YtcjjekhecjmaeaaGreatDoorImAllP
import Derived.Test.YtcjjekhecjmaeaaGreatDoorBdHolds
import Derived.Test.YtcjjekhecjmaeaaGreatDoorBdNMap
set_option maxHeartbeats 6000000
set_option maxRecDepth 100000
namespace Go.Proofs.YtcjjekhecjmaeaaGreatDoor
section
open Go.RowKit Go.Maps Num
section
variable {B s b : Nat} {O : Nat -> Prop} {vars : Nat} {room : Int} {ns : List Nd}
theorem count_any (w : World) (hS : SpaceAt B w s b O vars room ns) (hg : Good vars ns) (hl : ns.length <= 90000) (hv : vars <= 24) (h : Int) (hh : hasB ns h = true) :
  Calls Tryz.prog 9 #[.pointer (some ⟨s, 0, none⟩), .int .i64 h] w fun e w' => ∃ v, e = .returned (.tuple #[v, .nilIface]) /\ NatAt w' v (waysN vars ns h 0) /\ Below w.heap.size w w' := by
 have hi := has_i64 hh (by omega)
 have hb1 := below_new w (.cells #[.slice none 0 0] 30)
 have s1 : (w.alloc (.cells #[.slice none 0 0] 30)).heap.size = w.heap.size + 1 := by simp
 have HP := present_any (cp := 1) ((hS.new hb1).new (below_new (w.alloc (.cells #[.slice none 0 0] 30)) (.cells #[.int .i64 h] 3))) (by omega) (w.alloc (.cells #[.slice none 0 0] 30)).heap.size [h] (ints1 (w.alloc (.cells #[.slice none 0 0] 30)) h hi) (by simp) (fun y hy => by rw [List.mem_singleton] at hy; subst hy; exact hh)
 rw [show [h].length = 1 from rfl, s1] at HP
 have HPR := Lib.hid HP
 have hb2 := hb1.alloc hb1.size (.cells #[.int .i64 h] 3)
 have s2 : ((w.alloc (.cells #[.slice none 0 0] 30)).alloc (.cells #[.int .i64 h] 3)).heap.size = w.heap.size + 1 + 1 := by rw [World.size_alloc, s1]
 have hb3 := hb2.alloc hb2.size (.map #[] 0)
 have hown := World.ownsMap_made ((w.alloc (.cells #[.slice none 0 0] 30)).alloc (.cells #[.int .i64 h] 3)) Tryz.prog 3 natR
 rw [s2] at hown
 have hD : DoneN (((w.alloc (.cells #[.slice none 0 0] 30)).alloc (.cells #[.int .i64 h] 3)).alloc (.map #[] 0)) (w.heap.size + 1 + 1) vars ns [] := ⟨⟨_, hown, Rep.empty⟩, (fun p hp => by cases hp), (fun p hp => by cases hp)⟩
 have hslt := hS.slt
 have HWA := ways_any (B := B) (s := s) (b := b) (dk := w.heap.size + 1 + 1) (O := O) (vars := vars) (room := room) (ns := ns) hg hl hv (fun ho => by have := (hS.own _ ho).2; omega) (by omega) h 0 [] _ (hS.new hb3) hD hh (by have := (topOf_le hg.ranked h).1; omega) (Nat.zero_le _)
 have HWY : Hid (Calls Tryz.prog 35 #[.pointer (some ⟨s, 0, none⟩), .int .i64 h, .int .i64 0, .map (some (w.heap.size + 1 + 1))] (((w.alloc (.cells #[.slice none 0 0] 30)).alloc (.cells #[.int .i64 h] 3)).alloc (.map #[] 0)) (CntOut (w.heap.size + 1 + 1) vars ns (waysN vars ns h 0) (((w.alloc (.cells #[.slice none 0 0] 30)).alloc (.cells #[.int .i64 h] 3)).alloc (.map #[] 0)))) := HWA
 have HBX : Hid (BoxAt (((w.alloc (.cells #[.slice none 0 0] 30)).alloc (.cells #[.int .i64 h] 3)).alloc (.map #[] 0)) w.heap.size) := ((boxAt_new w).new (below_new _ _)).new (below_new _ _)
 have HB3 := Lib.hid hb3
 have hmm := @run_makeMap Tryz.prog
 clear HP HWA hS hg hh hb1 hb2 hb3 hown hD
 generalize waysN vars ns h 0 = m at *
 go_enter Tryz.func9, Tryz.ntmps9
 go_wp2_with fail
 refine HPR.out.mono ?_
 rintro e w1 ⟨rfl, rfl⟩
 clear HPR
 go_wp2_with fail
 refine HWY.out.mono ?_
 rintro e w4 ⟨v4, L4, rfl, hn, hD4, hk⟩
 generalize (((w.alloc (.cells #[.slice none 0 0] 30)).alloc (.cells #[.int .i64 h] 3)).alloc (.map #[] 0)) = W3 at *
 obtain ⟨x, rfl, hx⟩ := hn
 obtain ⟨xa, xn, xc⟩ := x
 have hn : NatAt w4 (NV.val ⟨xa, xn, xc⟩) m := ⟨_, rfl, hx⟩
 have hbx := HBX.out.kept hk (show w.heap.size ≠ w.heap.size + 1 + 1 by omega)
 have bc := hbx.c
 have bf := hbx.f
 have hcs : (w4.setCell ⟨w.heap.size, 0, none⟩ (.slice xa xn xc)).cell? ⟨w.heap.size, 0, none⟩ = some (.slice xa xn xc) := World.cell?_setCell_same _ _ _ bc
 have hb4 : Below w.heap.size w (w4.setCell ⟨w.heap.size, 0, none⟩ (.slice xa xn xc)) := (HB3.out.trans (hk.below HB3.out.size (fun j e => by omega))).setCell (Nat.le_refl _) _
 have HFIN : Hid (∃ v, Ending.returned (.tuple #[.agg #[.slice xa xn xc], .nilIface]) = .returned (.tuple #[v, .nilIface]) /\ NatAt (w4.setCell ⟨w.heap.size, 0, none⟩ (.slice xa xn xc)) v m /\ Below w.heap.size w (w4.setCell ⟨w.heap.size, 0, none⟩ (.slice xa xn xc))) := ⟨_, rfl, hn.box hbx.no _, hb4⟩
 clear hn hx hD4 hk hbx hb4 HWY HBX HB3
 unfold NV.val
 go_wp2
 refine bodyPost_ret (v := .tuple #[.agg #[.slice xa xn xc], .nilIface]) (by simp [results, Tryz.results9, go_sem, hcs]) rfl HFIN.out
end
end
section
open Go.RowKit Go.Maps Num
theorem big_ex : ∃ b : Nat, b = 1000000000 ^ 100 := ⟨_, rfl⟩
noncomputable def bigN : Nat := Classical.choose big_ex
theorem bigN_eq : bigN = 1000000000 ^ 100 := Classical.choose_spec big_ex
theorem NatAt.open' {w : World} {v : Value} {m : Nat} (h : NatAt w v m) (hm : m < bigN) : ∃ s ds, v = .agg #[s] /\ Dig .u64 w s ds /\ Norm 1000000000 ds /\ val 1000000000 ds = m /\ ds.length <= 100 := by
 obtain ⟨x, e, ds, h1, h2, h3⟩ := h
 exact ⟨_, ds, e, h1, h2, h3, norm_len (by omega) h2 (by rw [h3]; rw [bigN_eq] at hm; exact hm)⟩
theorem small_big {m : Nat} (h : m <= 100000000) : m < bigN := Nat.lt_of_le_of_lt h (by rw [bigN_eq]; decide +kernel)
section
variable {w : World} {r r1 r2 : Value} {m m1 m2 : Nat}
theorem num_cmp (h1 : NatAt w r1 m1) (h2 : NatAt w r2 m2) (l1 : m1 < bigN) (l2 : m2 < bigN) : Calls Tryz.prog 29 #[r1, r2] w fun e w' => e = .returned (.int .i64 (cmpN m1 m2)) /\ Below w.heap.size w w' := by
 obtain ⟨s1, d1, rfl, g1, n1, v1, k1⟩ := h1.open' l1
 obtain ⟨s2, d2, rfl, g2, n2, v2, k2⟩ := h2.open' l2
 have := cmp_any s1 s2 d1 d2 w g1 g2 n1.small n2.small (by omega) (by omega)
 rwa [v1, v2] at this
end
end
section
open Go.RowKit Go.Maps Num
theorem back_walk (vars : Nat) (hv0 : 0 < vars) (hv6 : vars <= 6) (xs : List Quad) (va : Value) (vn : Nat) (hvn : vn < 18446744073709551616) (w : World) (hx : ArgQuads w va xs) (hxl : xs.length <= 25) (hT : Tab10 w) (n : Int) (hm : w.cell? ⟨2, 0, none⟩ = some (.int .i64 n)) (hmg : 2 < w.heap.size) :
  Calls Tryz.prog 6 #[.int .i64 (vars : Int), va, .int .u64 (vn : Int)] w fun e w' => e = .returned (.bool true) /\ Below w.heap.size w w' := by
 have p6 : 2 ^ vars <= 64 := Nat.pow_le_pow_right (n := 2) (by omega) hv6
 have HSP := Lib.hid (space_yes vars hv0 hv6 xs va w hx hxl)
 obtain ⟨hsem, hlen, hal⟩ := fun_ok hv0 hv6 xs [] [0, 1] _ (sems_start (good_nil vars)) (by simp) (by simp; omega)
 have hne : 0 < (funF vars ([], [0, 1]) xs).2.length := by rw [hal]; simp; omega
 have HI64 : Hid (∀ x ∈ (funF vars ([], [0, 1]) xs).2, I64 x) := fun x hx => has_i64 (hsem.has x hx) (by simp at hlen; omega)
 have HH : Hid (∀ x ∈ (funF vars ([], [0, 1]) xs).2, hasB (funF vars ([], [0, 1]) xs).1 x = true) := hsem.has
 have HG := Lib.hid hsem.good
 unfold SpaceOut at HSP
 obtain ⟨a0, c0, rfl, -⟩ := hx
 have HT := Lib.hid hT
 have HM := Lib.hid hm
 clear hsem hT hm
 generalize funF vars ([], [0, 1]) xs = r at *
 obtain ⟨ns, al⟩ := r
 simp only at HSP HG hlen hal hne HI64 HH
 have h27 : al.length <= 27 := by rw [hal]; simp; omega
 have hl0 : ns.length <= 1575 := by simp at hlen; omega
 clear hal hlen
 go_enter Tryz.func6, Tryz.ntmps6
 go_wp2_with fail
 refine HSP.out.mono ?_
 rintro e w1 ⟨s, b, O, a, c, rfl, hS, hrow, hap, hO, hb1⟩
 have HTR := Lib.hid (truth_any w1)
 obtain ⟨ga, rfl, hIA, -⟩ := ints_of_row hrow (by omega) HI64.out
 have SP : Hid (∀ W, Below w1.heap.size w1 W -> SpaceAt w.heap.size W s b O vars 4000 ns) := fun W hW => hS.new hW
 obtain ⟨m, hmm⟩ : ∃ m, al.length = m + 1 := ⟨al.length - 1, by omega⟩
 have hml : m < al.length := by omega
 have CL : Hid (∀ W, Below w1.heap.size w1 W -> W.cell? ⟨ga, m, none⟩ = some (.int .i64 al[m])) := fun W hW => (hW.cell (p := ⟨ga, m, none⟩) hIA.lt).trans (hIA.cells _ hml)
 have hhas := HH.out _ (List.getElem_mem hml)
 have HB1 := Lib.hid hb1
 clear HSP hS hrow hap hO hb1 hIA HI64 HH
 generalize al[m] = x at *
 rw [hmm]
 have i1 : (m : Int) < ((m + 1 : Nat) : Int) := by omega
 have i2 : (m : Int) < (m : Int) + 1 := by omega
 have i3 : (m : Int) + 1 - 1 = (m : Int) := by omega
 have hm27 : m <= 27 := by omega
 clear hmm hml h27 hne
 have hr := HG.out.ranked
 obtain ⟨hD, hiD, -⟩ := post_ok hr 25 x [] ⟨fun x hx => (by cases hx), List.nodup_nil, fun x hx => (by cases hx)⟩ hhas (by have := (topOf_le hr x).1; omega)
 have hDl := listed_len hD
 have hLI := load_img HG.out (by omega) hhas (by omega)
 have hGC := copy_good HG.out (by omega) hhas (by omega)
 have hSC := copy_sem HG.out hhas
 have hDC : ((postF ns 25 x []).map (cpN ns (postF ns 25 x []))).length <= 4000 := by rw [List.length_map]; omega
 have hil : 0 < (imgF vars ns (postF ns 25 x []) x).length := by unfold imgF; simp only [List.length_append, List.length_cons, List.length_nil]; omega
 have HSV : Hid (∀ W, Below w1.heap.size w1 W -> Calls Tryz.prog 18 #[.pointer (some ⟨s, 0, none⟩), .int .i64 x] W fun e w' => ∃ v, e = .returned (.tuple #[v, .nilIface]) /\ RowM w' W.heap.size v (imgF vars ns (postF ns 25 x []) x) /\ Below W.heap.size W w') := fun W hW => save_any (SP.out W hW) hr (by omega) (by omega) (HT.out.below (HB1.out.trans (hW.mono HB1.out.size))) x hhas
 generalize (postF ns 25 x []).map (cpN ns (postF ns 25 x [])) = C at *
 generalize numD (postF ns 25 x []) x = g at *
 generalize imgF vars ns (postF ns 25 x []) x = IM at *
 have hf := load_fine hLI
 have hhg := hf.2.2.2.2.1
 have hrC := hf.2.2.2.1.ranked
 have hall := load_all hLI
 have hW : waysN vars C g 0 = waysN vars ns x 0 := (ways_is (vars := vars) hSC).trans (ways_is (vars := vars) (fun _ => rfl)).symm
 have hwl : waysN vars ns x 0 <= 64 := by
  have h1 := ways_is (vars := vars) (ns := ns) (h := x) (g := sem ns x) (fun _ => rfl)
  have h2 := cntV_le (sem ns x) vars 0 (fun _ => false)
  rw [<- h1] at h2; omega
 have hsb := small_big (m := waysN vars ns x 0) (by omega)
 have HSC := Lib.hid (hSC (bitsF vn))
 have HLI := Lib.hid hLI
 have HGC := Lib.hid hGC
 have HW := Lib.hid hW
 have HAL := Lib.hid hall
 clear hD hiD hDl hLI hGC hSC hf hall hW hr
 go_wp2_with fail
 refine HTR.out.mono ?_
 rintro e w2 ⟨rfl, hb2⟩
 have HB2 := Lib.hid (HB1.out.trans (hb2.mono HB1.out.size))
 have cl := CL.out w2 hb2
 have HSV2 := Lib.hid (HSV.out w2 hb2)
 have SP2 : Hid (∀ W, Below w2.heap.size w2 W -> SpaceAt w.heap.size W s b O vars 4000 ns) := fun W hW => SP.out W (hb2.trans (hW.mono hb2.size))
 clear HTR hb2 SP CL HSV
 go_wp2_with fail
 refine HSV2.out.mono ?_
 rintro e w3 ⟨v3, rfl, hM3, hb3⟩
 obtain ⟨a3, c3, rfl⟩ := hM3.form
 have HB3 := Lib.hid (HB2.out.trans (hb3.mono HB2.out.size))
 have SP3 : Hid (∀ W, Below w3.heap.size w3 W -> SpaceAt w.heap.size W s b O vars 4000 ns) := fun W hW => SP2.out W (hb3.trans (hW.mono hb3.size))
 have HBY := Lib.hid hM3.bytes
 clear HSV2 SP2 hM3 hb3 cl
 obtain ⟨L, hL⟩ : ∃ L, L = IM.length := ⟨_, rfl⟩
 have HL := Lib.hid hL
 rw [<- hL] at hil ⊢
 have i5 : ¬ (L : Int) = 0 := by omega
 have i6 : ¬ L = 0 := by omega
 clear hL
 by_cases h20 : L <= 20000
 ·have HLD : Hid (Calls Tryz.prog 21 #[.slice a3 L c3, .int .i64 4000] w3 fun e w' => ∃ s2 b2 O2, e = .returned (.tuple #[.pointer (some ⟨s2, 0, none⟩), .int .i64 g, .nilIface]) /\ SpaceAt w3.heap.size w' s2 b2 O2 vars 4000 C /\ Below w3.heap.size w3 w') := by
   have h1 := load_any IM (by have := HL.out; omega) a3 c3 4000 w3 (HT.out.below HB3.out) n ((HB3.out.cell (p := ⟨2, 0, none⟩) hmg).trans HM.out) (Nat.lt_of_lt_of_le hmg HB3.out.size) (fun W hW => conv_bytes (HBY.out.below hW) (by have := HL.out; omega))
   rw [<- HL.out] at h1
   refine h1.mono ?_
   rintro e w' ⟨hlr, hb⟩
   rcases hlr with ⟨y, h2, -⟩ | ⟨v', ns', h', s', b', O', h2, rfl, hS'⟩
   ·rw [HLI.out] at h2; cases h2
   ·rw [HLI.out] at h2
    obtain ⟨rfl, rfl, rfl⟩ : vars = v' /\ C = ns' /\ g = h' := by simpa using h2
    exact ⟨s', b', O', rfl, hS', hb⟩
  clear HBY HT HM HL HLI i6
  go_wp2_with fail
  refine HLD.out.mono ?_
  rintro e w4 ⟨s2, b2, O2, rfl, hS2, hb4⟩
  have HVA := Lib.hid (vars_any hS2)
  have SPN : Hid (∀ W, Below w4.heap.size w4 W -> SpaceAt w3.heap.size W s2 b2 O2 vars 4000 C) := fun W hW => hS2.new hW
  have SPO : Hid (∀ W, Below w4.heap.size w4 W -> SpaceAt w.heap.size W s b O vars 4000 ns) := fun W hW => SP3.out W (hb4.trans (hW.mono hb4.size))
  have HB4 := Lib.hid (HB3.out.trans (hb4.mono HB3.out.size))
  have hz34 := hb4.size
  have HO1 := Lib.hid (holds_any (SPO.out w4 (Below.refl _ _)) HG.out (by omega) x hhas vn hvn)
  clear HLD hS2 hb4 SP3
  go_wp2_with fail
  refine HVA.out.mono ?_
  rintro e w5 ⟨rfl, rfl⟩
  clear HVA
  go_wp2_with fail
  refine HO1.out.mono ?_
  rintro e w5 ⟨rfl, hb5⟩
  have HO2 := Lib.hid (holds_any (SPN.out w5 hb5) HGC.out (by omega) g hhg vn hvn)
  rw [HSC.out] at HO2
  have HB5 := Lib.hid hb5
  clear HO1 hb5 HSC
  generalize sem ns x (bitsF vn) = Z at *
  go_wp2_with fail
  refine HO2.out.mono ?_
  rintro e w6 ⟨rfl, hb6⟩
  have HB6 := Lib.hid (HB5.out.trans (hb6.mono HB5.out.size))
  have HC1 := Lib.hid (count_any w6 (SPO.out w6 HB6.out) HG.out (by omega) (by omega) x hhas)
  clear HO2 hb6 HB5
  go_wp2_with fail
  refine HC1.out.mono ?_
  rintro e w7 ⟨v7, rfl, hn7, hb7⟩
  obtain ⟨⟨xa, xn, xc⟩, rfl, hx7⟩ := hn7
  have hn7 : NatAt w7 (NV.val ⟨xa, xn, xc⟩) (waysN vars ns x 0) := ⟨_, rfl, hx7⟩
  unfold NV.val at hn7 ⊢
  have hs7 := hb7.size
  obtain ⟨W8, hW8⟩ : ∃ W, W = w7.alloc (.cells #[.slice xa xn xc] 30) := ⟨_, rfl⟩
  have q8 : Blk W8 w7.heap.size 30 #[.slice xa xn xc] := by rw [hW8]; exact Blk.new w7 _ _
  have hb78 : Below w7.heap.size w7 W8 := by rw [hW8]; exact below_new w7 _
  have HB8 := Lib.hid (HB6.out.trans ((hb7.trans (hb78.mono hs7)).mono HB6.out.size))
  have HN8 := Lib.hid (hn7.new hb78)
  have HC2 := Lib.hid (count_any W8 (SPN.out W8 HB8.out) HGC.out (by omega) (by omega) g hhg)
  have Q8 := Lib.hid q8
  rw [HW.out] at HC2
  clear HC1 hx7 hn7 hb7 hb78 q8 HB6 HW hs7
  go_wp2_with fail
  rw [<- hW8]
  clear hW8
  refine HC2.out.mono ?_
  rintro e w9 ⟨v9, rfl, hn9, hb9⟩
  obtain ⟨⟨ya, yn, yc⟩, rfl, hx9⟩ := hn9
  have hn9 : NatAt w9 (NV.val ⟨ya, yn, yc⟩) (waysN vars ns x 0) := ⟨_, rfl, hx9⟩
  unfold NV.val at hn9 ⊢
  have hs9 := hb9.size
  obtain ⟨W10, hW10⟩ : ∃ W, W = w9.alloc (.cells #[.slice ya yn yc] 30) := ⟨_, rfl⟩
  have q10 : Blk W10 w9.heap.size 30 #[.slice ya yn yc] := by rw [hW10]; exact Blk.new w9 _ _
  have hb910 : Below w9.heap.size w9 W10 := by rw [hW10]; exact below_new w9 _
  have hb810 := hb9.trans (hb910.mono hs9)
  have HB10 := Lib.hid (HB8.out.trans (hb810.mono HB8.out.size))
  have HN10 := Lib.hid (hn9.new hb910)
  have HN8' := Lib.hid (HN8.out.new hb810)
  have Q10 := Lib.hid q10
  have Q8' := Lib.hid (Q8.out.below hb810 Q8.out.lt)
  have HSZ := Lib.hid (size_op (SPN.out W10 HB10.out) hrC (by omega) (by have := HB10.out.size; omega) g hhg)
  rw [HAL.out] at HSZ
  clear HC2 hx9 hn9 hb9 hb910 hb810 q10 HB8 HN8 Q8 HAL hs9
  obtain ⟨TL, hTL⟩ : ∃ TL, TL = (taken C).length := ⟨_, rfl⟩
  rw [<- hTL] at HSZ
  have HTL := Lib.hid hTL
  clear hTL
  go_wp2_with fail
  rw [<- hW10]
  clear hW10
  refine HSZ.out.mono ?_
  rintro e w11 ⟨rfl, hb11⟩
  have HB11 := Lib.hid (HB10.out.trans (hb11.mono HB10.out.size))
  have k1 : w11.cell? ⟨w7.heap.size, 0, none⟩ = some (.slice xa xn xc) := (Q8'.out.below hb11 Q8'.out.lt).cell 0
  have k2 : w11.cell? ⟨w9.heap.size, 0, none⟩ = some (.slice ya yn yc) := (Q10.out.below hb11 Q10.out.lt).cell 0
  have HCM := Lib.hid (num_cmp (HN8'.out.new hb11) (HN10.out.new hb11) hsb hsb)
  rw [show cmpN (waysN vars ns x 0) (waysN vars ns x 0) = 0 by unfold cmpN; simp] at HCM
  have HLN : Hid (∀ W, Below w11.heap.size w11 W -> Calls Tryz.prog 24 #[.pointer (some ⟨b2, 0, none⟩)] W fun e w' => e = .returned (.int .i64 (TL : Int)) /\ W = w') := fun W hW => HTL.out ▸ spLen (SPN.out W (HB11.out.trans (hW.mono HB11.out.size)))
  have HSC : Hid (∀ W, Below w11.heap.size w11 W -> W.cell? ⟨s2, 0, none⟩ = some (.pointer (some ⟨b2, 0, none⟩))) := fun W hW => (SPN.out W (HB11.out.trans (hW.mono HB11.out.size))).c0
  have HBF : Hid (∀ W, Below w11.heap.size w11 W -> Below w.heap.size w W) := fun W hW => HB4.out.trans ((HB11.out.trans (hW.mono HB11.out.size)).mono HB4.out.size)
  clear HSZ hb11 HN8' HN10 Q8' Q10 HB10 SPN SPO
  go_wp2_with fail
  refine HCM.out.mono ?_
  rintro e w12 ⟨rfl, hb12⟩
  have kc := HSC.out w12 hb12
  have HLN2 := Lib.hid (HLN.out w12 hb12)
  have HBF2 := Lib.hid (HBF.out w12 hb12)
  clear HCM hb12 HLN HSC HBF
  go_wp2_with fail
  refine HLN2.out.mono ?_
  rintro e w13 ⟨rfl, rfl⟩
  go_wp2
  go_ret
  exact ⟨rfl, HBF2.out⟩
 ·have i7 : (20000 : Int) < (L : Int) := by omega
  clear h20
  go_wp2
  go_ret
  exact ⟨rfl, HB3.out⟩
end
end Go.Proofs.YtcjjekhecjmaeaaGreatDoor
