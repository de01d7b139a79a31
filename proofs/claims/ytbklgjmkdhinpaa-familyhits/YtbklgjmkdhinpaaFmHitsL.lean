/- For every number of things and every list of steps: the least sets that have something of each set of the last family are found by trying all. No condition. -/
import Derived.Test.YtbklgjmkdhinpaaSrBase
import Derived.Test.YtbklgjmkdhinpaaFmRHits
set_option maxHeartbeats 4000000
set_option maxRecDepth 100000
namespace Go.Proofs.Ytbklgjmkdhinpaa.Fm
open Go.ChangeShapes Go.WideShapes Go.ChangeAt Go.RowKit Go.Maps Go.Proofs.Ytbklgjmkdhinpaa.Bd
theorem FL.kept {P : Nat -> Prop} {w w' : World} {b : Nat} {L : List Nat} (h : FL w b L) (hk : Kept P w w') (hn : ¬ P b) : FL w' b L := by
 have hl := h.lt
 obtain ⟨D, ⟨es, clock, h1, h2⟩, hR⟩ := h
 exact ⟨D, ⟨es, clock, (hk.block b hl hn).trans h1, h2⟩, hR⟩
theorem FM.kept {P : Nat -> Prop} {w w' : World} {b : Nat} {S : Nat -> Prop} (h : FM w b S) (hk : Kept P w w') (hn : ¬ P b) : FM w' b S := by
 obtain ⟨L, h, e⟩ := h; exact ⟨L, h.kept hk hn, e⟩
theorem fhits_walk (vars : Nat) (hv6 : vars <= 6) (xs : List Quad) (va : Value) (w : World) (hx : ArgQuads w va xs) (hxl : xs.length <= 20) :
  Calls Try.prog 4 #[.int .i64 (vars : Int), va] w fun e w' => e = .returned (.bool true) /\ Below w.heap.size w w' := by
 have HM := Lib.hid (lsets_yes vars hv6 xs va w hx hxl)
 obtain ⟨a0, c0, rfl, -⟩ := hx
 have p6 : 2 ^ vars <= 64 := Nat.pow_le_pow_right (n := 2) (by omega) hv6
 go_enter Try.func4, Try.ntmps4
 go_wp2_with fail
 refine HM.out.mono ?_
 rintro e w1 ⟨s, b, O, ns, al, ga, c, tv, gs, rfl, hm⟩
 have hgl : gs.length = al.length := by rw [hm.fams.len, hm.sems.len]
 have hne : 0 < al.length /\ al.length <= 22 := by
  have := hm.sems.len
  rw [famT_len] at this
  simp at this; omega
 obtain ⟨tg, tc, rfl, htg, htc⟩ := hm.fams.cell (by omega)
 obtain ⟨N, hN⟩ : ∃ N, N = al.length - 1 := ⟨_, rfl⟩
 have hNl : N < al.length := by omega
 have hNg : N < gs.length := by omega
 have hNT : N < (famT vars [fun _ => False, fun y => y = 0] xs).length := by rw [<- hm.sems.len]; exact hNl
 have hF := hm.fam
 have hf : hasB ns al[N] = true := hm.sems.has _ (List.getElem_mem hNl)
 have hmemf := hm.sems.mem N hNl hNT
 have hfm := hm.fams.fams N hNg hNT
 have haw := hm.away N hNg
 have hva := hm.vaway tg rfl
 have c1 := hm.ints.cells N hNl
 have c2 := htc N _ (List.getElem?_eq_getElem hNg)
 have hch := cost_rr hv6 .hits
 have n1 : nsN ns al[N] <= 65536 := by have := nsN_vars hF.good hF.v24 hf; omega
 have HH := Lib.hid (hits_any hF hf n1 (by have := hm.cnt; omega))
 have HG := Lib.hid hF.good
 have HO := Lib.hid hm.own
 have HB1 := Lib.hid hm.below
 have HFMM := Lib.hid hfm
 have HMF := Lib.hid hmemf
 have HAW := Lib.hid haw.1
 have HVA := Lib.hid hva.1
 have HC2 := Lib.hid c2
 have HTL := Lib.hid htg
 have il : (al.length : Int) - 1 = (N : Int) := by omega
 have il2 : (N : Int) < (al.length : Int) := by omega
 have hsm : ∀ y, (famT vars [fun _ => False, fun y => y = 0] xs)[N] y -> y < 2 ^ vars := fun y hy => by
  have := (hmemf y).2 hy
  apply Classical.byContradiction
  intro hn
  have hge : 2 ^ vars <= y := by omega
  obtain ⟨i, hi, hb⟩ := Nat.exists_ge_and_testBit_of_ge_two_pow hge
  have := in_lt hF.good this hb
  omega
 have HSM := Lib.hid hsm
 clear hm htc hF hmemf hfm haw hva c2 n1 hch hsm hN htg HM
 generalize (famT vars [fun _ => False, fun y => y = 0] xs)[N] = T at *
 generalize al[N] = fh at *
 generalize gs[N] = fg at *
 rw [hgl]
 have eNN : (al.length != al.length) = false := by simp
 clear hgl hNg
 generalize al.length = M at *
 clear hNT
 go_wp2_with fail
 refine HH.out.mono ?_
 rintro e w2 ⟨x1, ns1, O1, rfl, hF1, mv1, e1, h1, m1, k1⟩
 have n2 : nsN ns1 x1 <= 64 := by have := nsN_vars hF1.good hF1.v24 h1; omega
 have HL := Lib.hid (list_any w2 hF1 hv6 x1 h1 100 (by omega))
 unfold ListOut at HL
 have c2 := (mv1.cell (a := ⟨tg, N, none⟩) HTL.out HVA.out).trans HC2.out
 have HF2 := Lib.hid (HFMM.out.kept mv1.kept HAW.out)
 have HB2 := Lib.hid (HB1.out.trans (mv1.below HB1.out.size HO.out))
 have HTL2 : Hid (tg < w2.heap.size) := Nat.lt_of_lt_of_le HTL.out mv1.size
 have HM1 := Lib.hid m1
 have HCC := Lib.hid c2
 clear HH hF1 mv1 e1 h1 m1 k1 n2 c2 HTL HC2 HFMM HB1
 go_wp2_with fail
 refine HL.out.mono ?_
 rintro e w3 ⟨L, a3, c3, rfl, hu, hs, hmem, -, hb3⟩
 have c3' := (hb3.cell (p := ⟨tg, N, none⟩) HTL2.out).trans HCC.out
 have hf3 := HF2.out.below hb3
 have HRH := Lib.hid (rhits_any vars hv6 w3 fg hf3 HSM.out)
 have HB3 := Lib.hid (HB2.out.trans (hb3.mono HB2.out.size))
 have HUA := Lib.hid hu
 have HSO := Lib.hid hs
 have HME := Lib.hid hmem
 clear HL hu hs hmem hb3 hf3 HF2 HB2 HCC
 have i5 : (N : Int) < (M : Int) := by omega
 go_wp2_with fail
 refine HRH.out.mono ?_
 rintro e w4 ⟨g4, rfl, hf4, -, hb4⟩
 have hsb : ∀ y, T y -> ∀ i, y.testBit i = true -> i < vars := fun y hy i hi => by
  apply Classical.byContradiction
  intro hn
  rw [Nat.testBit_lt_two_pow (Nat.lt_of_lt_of_le (HSM.out y hy) (Nat.pow_le_pow_right (n := 2) (by omega) (by omega)))] at hi
  cases hi
 have HRS := Lib.hid (rsets_any w4 g4 hf4 (fun x hx => by
  have := ((hits_small hsb x).2 hx).1.1
  omega))
 unfold RSets at HRS
 have HB4 := Lib.hid (HB3.out.trans (hb4.mono HB3.out.size))
 have HUA4 : Hid (∀ W, Below w4.heap.size w4 W -> UArg W (.slice a3 L.length c3) L) := fun W hW => HUA.out W (hb4.trans (hW.mono hb4.size))
 clear hf4 hb4 HRH HUA HB3 hsb c3'
 go_wp2_with fail
 refine HRS.out.mono ?_
 rintro e w5 ⟨L2, a5, c5, rfl, hrow, hs5, hm5, hb5⟩
 have hLL : L = L2 := by
  refine rising_eq HSO.out hs5 (fun x => ?_)
  rw [HME.out, HM1.out, hm5]
  exact opP_congr .hits HMF.out (fun y => ⟨fun h => in_zero y h, fun h => h.elim⟩) x
 have hlen : L.length <= 64 := small_len HSO.out (fun x hx => by
  have h1 := (HM1.out x).1 ((HME.out x).1 hx)
  have h2 := (opP_congr .hits HMF.out (fun y => ⟨fun h => in_zero y h, fun h => h.elim⟩) x).1 h1
  have hsb : ∀ y, T y -> ∀ i, y.testBit i = true -> i < vars := fun y hy i hi => by
   apply Classical.byContradiction
   intro hn
   rw [Nat.testBit_lt_two_pow (Nat.lt_of_lt_of_le (HSM.out y hy) (Nat.pow_le_pow_right (n := 2) (by omega) (by omega)))] at hi
   cases hi
  have := ((hits_small hsb x).2 h2).1.1
  omega)
 have HSA := Lib.hid (sameU_any w5 _ _ L L2 (HUA4.out w5 hb5) (UArg.of_row hrow) (by omega))
 rw [decide_eq_true hLL] at HSA
 have HB5 := Lib.hid (HB4.out.trans (hb5.mono HB4.out.size))
 clear hrow hs5 hm5 hb5 hLL hlen HRS HUA4 HB4 HSO HME
 go_wp2_with fail
 refine HSA.out.mono ?_
 rintro e w6 ⟨rfl, hb6⟩
 have HB6 := Lib.hid (HB5.out.trans (hb6.mono HB5.out.size))
 clear hb6 HSA HB5
 go_wp2
 go_ret
 exact ⟨rfl, HB6.out⟩
end Go.Proofs.Ytbklgjmkdhinpaa.Fm
