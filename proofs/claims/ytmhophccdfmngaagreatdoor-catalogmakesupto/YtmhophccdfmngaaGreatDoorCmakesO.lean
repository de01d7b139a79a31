/- CatalogMakes: where the lines make a catalog. -/
import Derived.Test.YtmhophccdfmngaaGreatDoorRlParse
import Derived.Test.YtmhophccdfmngaaGreatDoorRlItems
import Derived.Test.YtmhophccdfmngaaGreatDoorRlAmong
import Derived.Test.YtmhophccdfmngaaGreatDoorCtTextC
import Derived.Test.YtmhophccdfmngaaGreatDoorRlNum
import Derived.Test.YtmhophccdfmngaaGreatDoorCtLine
import Derived.Deep.RegionHeld3
set_option maxHeartbeats 16000000
set_option maxRecDepth 100000
namespace Go.Proofs.YtmhophccdfmngaaGreatDoor
section
open Go.RowKit Go.Shelf Go.Deep Go.Sort Sv
theorem cmakes_none (xs : List Raw) (xa : Option Addr) (xc : Nat) (w : World) (hx : RawsAt w xa xs) (hl : xs.length <= 1048576) (hw : Lw w) (hF : FineR w) (h : linesF xs [] = none) : Calls Tryz.prog 6 #[.slice xa xs.length xc] w fun r w' => r = .returned (.bool true) /\ Below w.heap.size w w' := by
 have HL0 := lines_any xs xa xc w hx hl hw hF
 rw [h] at HL0
 have HL : Hid (Calls Tryz.prog 29 #[.slice xa xs.length xc] w fun e w' => e = .returned (.tuple #[.slice none 0 0, .slice none 0 0, .bool false]) /\ Below w.heap.size w w') := HL0
 clear HL0 hx hw hF h
 go_enter Tryz.func6, Tryz.ntmps6
 go_wp2_with fail
 refine HL.out.mono ?_
 rintro e w1 ⟨rfl, hb1⟩
 have HB1 := Lib.hid hb1
 clear hb1 HL
 go_wp2
 go_ret
 exact ⟨rfl, HB1.out⟩
theorem cmakes_long (xs : List Raw) (xa : Option Addr) (xc : Nat) (w : World) (hx : RawsAt w xa xs) (hl : xs.length <= 1048576) (hw : Lw w) (hF : FineR w) (ls : List Ln) (h : linesF xs [] = some ls) (h110 : ¬ xs.length <= 110) : Calls Tryz.prog 6 #[.slice xa xs.length xc] w fun r w' => r = .returned (.bool true) /\ Below w.heap.size w w' := by
 have HL0 := lines_any xs xa xc w hx hl hw hF
 rw [h] at HL0
 have HL : Hid (Calls Tryz.prog 29 #[.slice xa xs.length xc] w fun e w' => ∃ la n lc ua m uc, e = .returned (.tuple #[.slice la n lc, .slice ua m uc, .bool false]) /\ Below w.heap.size w w') := HL0.mono fun e w' ⟨lv, uv, vs, us, h1, h2⟩ => by
  obtain ⟨la, lc, rfl⟩ := h2.lform
  obtain ⟨ua, uc, rfl⟩ := h2.uform
  exact ⟨la, _, lc, ua, _, uc, by rw [h1, decide_eq_false h110], h2.B⟩
 clear HL0 hx hw hF h h110
 go_enter Tryz.func6, Tryz.ntmps6
 go_wp2_with fail
 refine HL.out.mono ?_
 rintro e w1 ⟨la, n, lc, ua, m, uc, rfl, hb1⟩
 have HB1 := Lib.hid hb1
 clear hb1 HL
 go_wp2
 go_ret
 exact ⟨rfl, HB1.out⟩
theorem lines_fit (xs : List Raw) (xa : Option Addr) (xc : Nat) (w : World) (hx : RawsAt w xa xs) (hl : xs.length <= 1048576) (hw : Lw w) (hF : FineR w) (ls : List Ln) (h : linesF xs [] = some ls) (h110 : xs.length <= 110) : Calls Tryz.prog 29 #[.slice xa ls.length xc] w fun e w' => ∃ la lc ua uc vs us, e = .returned (.tuple #[.slice la ls.length lc, .slice ua ls.length uc, .bool true]) /\ LL w w' (.slice la ls.length lc) (.slice ua ls.length uc) ls vs us := by
 have HL0 := lines_any xs xa xc w hx hl hw hF
 have hle : xs.length = ls.length := by have := linesF_len xs [] ls h; simpa using this.symm
 rw [h, hle] at HL0
 refine HL0.mono fun e w' ⟨lv, uv, vs, us, h1, h2⟩ => ?_
 obtain ⟨la, lc, rfl⟩ := h2.lform
 obtain ⟨ua, uc, rfl⟩ := h2.uform
 exact ⟨la, lc, ua, uc, vs, us, by rw [h1, decide_eq_true (by omega)], h2⟩
theorem cmakes_err (xs : List Raw) (xa : Option Addr) (xc : Nat) (w : World) (hx : RawsAt w xa xs) (hl : xs.length <= 1048576) (hw : Lw w) (hF : FineR w) (ls : List Ln) (h : linesF xs [] = some ls) (h110 : xs.length <= 110) (q : Int) (o : Option Nat) (hn : newF ls = .error (q, o)) : Calls Tryz.prog 6 #[.slice xa ls.length xc] w fun r w' => r = .returned (.bool true) /\ Below w.heap.size w w' := by
 have hle : xs.length = ls.length := by have := linesF_len xs [] ls h; simpa using this.symm
 have HL := Lib.hid (lines_fit xs xa xc w hx hl hw hF ls h h110)
 have hq := newF_err hn
 have HNE : Hid (∀ W vs lv, RgsAt W ls vs -> RowAt W lv ls.length (lnCells ls vs) -> Calls Tryz.prog 31 #[lv] W fun e w' => ∃ er, e = .returned (.tuple #[.pointer none, er]) /\ ErrP w' er q o /\ Below W.heap.size W w') := fun W vs lv h1 h2 => by
  have := new_any ls vs lv W h1 h2
  rw [hn] at this
  exact this
 have HCC : Hid (∀ W v, RLs W v ls -> FineR W -> Calls Tryz.prog 30 #[v] W fun e w' => e = .returned (.agg #[.int .i64 q, .int .i64 (placeO o)]) /\ Below W.heap.size W w') := fun W v h1 h2 => by
  have := rcatc_any ls v W h1 (by omega) h2
  rw [hn] at this
  exact this
 have HAT := Lib.hid (fun (er : Value) (W : World) (hb : Below w.heap.size w W) (he : ErrIs W er q (placeO o)) => at_any q q (placeO o) (placeO o) er W (hw.below hb).lb.glob he)
 have hq1 : (q == 0) = false := by rw [beq_eq_false_iff_ne]; exact hq
 have HQZ := Lib.hid hq
 have HF := Lib.hid hF
 clear hx hw hF h hq hn hle
 generalize hPO : placeO o = PO at *
 have HPO := Lib.hid hPO
 clear hPO
 go_enter Tryz.func6, Tryz.ntmps6
 go_wp2_with fail
 refine HL.out.mono ?_
 rintro e w1 ⟨la, lc, ua, uc, vs, us, rfl, hll⟩
 have HLL := Lib.hid hll
 have HC1 := Lib.hid (HCC.out w1 _ ⟨us, hll.urg, rowAt_own hll.urow⟩ (HF.out.below hll.B))
 clear hll HL HCC
 go_wp2_with fail
 refine HC1.out.mono ?_
 rintro e w2 ⟨rfl, hb2⟩
 have hA := below_new w2 (.cells #[.int .i64 q, .int .i64 PO] 26)
 have kf := Blk.new w2 26 #[.int .i64 q, .int .i64 PO]
 have HL3 := Lib.hid (HLL.out.step (hb2.trans (hA.mono hb2.size)))
 clear hb2 hA HC1 HLL
 go_upto_region 5 with fail
 generalize w2.alloc (.cells #[.int .i64 q, .int .i64 PO] 26) = W3 at *
 generalize w2.heap.size = bf at *
 have HN3 := Lib.hid (HNE.out W3 vs _ HL3.out.lrg (rowAt_own HL3.out.lrow))
 go_wp2_with fail
 refine HN3.out.mono ?_
 rintro e w4 ⟨er, rfl, he, hb4⟩
 have HB4 : Hid (Below w.heap.size w w4) := HL3.out.B.trans (hb4.mono HL3.out.B.size)
 have kf4 := kf.below hb4 kf.lt
 have c0 : w4.cell? ⟨bf, 0, none⟩ = some (.int .i64 q) := kf4.cell 0
 have c1 : w4.cell? ⟨bf, 1, none⟩ = some (.int .i64 PO) := kf4.cell 1
 have hei : ErrIs w4 er q PO := by
  rw [<- HPO.out]
  cases o with
  | none => exact Or.inr (Or.inl ⟨HQZ.out, rfl, he⟩)
  | some i =>
   obtain ⟨M, h3, h4⟩ := he
   exact Or.inr (Or.inr ⟨HQZ.out, M, h4.lt, h3, h4.cell 0, h4.cell 1⟩)
 have h7 := HAT.out er w4 HB4.out hei
 rw [show (q == q && PO == PO) = true by simp] at h7
 have HA2 := Lib.hid h7
 clear h7 hei he hb4 kf kf4 HAT HQZ HL3 HN3 HNE HF
 go_wp2_with fail
 refine HA2.out.mono ?_
 rintro e w5 ⟨rfl, hb5⟩
 have HB5 : Hid (Below w.heap.size w w5) := HB4.out.trans (hb5.mono HB4.out.size)
 clear hb5 HA2 c0 c1
 go_wp2
 go_ret
 exact ⟨rfl, HB5.out⟩
end
section
open Go.RowKit Go.Shelf Go.Deep Go.Sort Sv
theorem numb_self {its : List It} (h : Asc its) {i : Nat} (hi : i < its.length) : ctNumb its (its.getD i default) = (i : Int) := by
 refine ctNumb_at hi rfl fun j hj e => ?_
 have h1 := asc_at h hi hj
 rw [<- e] at h1
 have h2 := ctCmp_anti (its.getD i default) (its.getD i default)
 omega
theorem cmakes_ok (xs : List Raw) (xa : Option Addr) (xc : Nat) (w : World) (hx : RawsAt w xa xs) (hl : xs.length <= 1048576) (hw : Lw w) (hF : FineR w) (ad : Addr) (cap : Nat) (hK : KindsAt w ad cap) (ls : List Ln) (h : linesF xs [] = some ls) (h110 : xs.length <= 110) (its : List It) (hn : newF ls = .ok its) : Calls Tryz.prog 6 #[.slice xa ls.length xc] w fun r w' => r = .returned (.bool true) /\ Below w.heap.size w w' := by
 have HL := Lib.hid (lines_fit xs xa xc w hx hl hw hF ls h h110)
 obtain ⟨hi24, hl100, hck⟩ := newF_ok hn
 obtain ⟨hasc, hri⟩ := new_asc hn
 have HNE : Hid (∀ W vs lv, RgsAt W ls vs -> RowAt W lv ls.length (lnCells ls vs) -> Calls Tryz.prog 31 #[lv] W fun e w' => ∃ bc, e = .returned (.tuple #[.pointer (some ⟨bc, 0, none⟩), .nilIface]) /\ CatAt w' bc ls its /\ Below W.heap.size W w') := fun W vs lv h1 h2 => by
  have := new_any ls vs lv W h1 h2
  rw [hn] at this
  exact this.mono fun e w' ⟨bc, g1, g2, g3⟩ => ⟨bc, g1, g2.cat, g3⟩
 have HCC : Hid (∀ W v, RLs W v ls -> FineR W -> Calls Tryz.prog 30 #[v] W fun e w' => e = .returned (.agg #[.int .i64 0, .int .i64 (-1)]) /\ Below W.heap.size W w') := fun W v h1 h2 => by
  have := rcatc_any ls v W h1 (by omega) h2
  rw [hn] at this
  exact this
 have HIT : Hid (∀ v W, RLs W v ls -> Calls Tryz.prog 32 #[v] W fun e w' => ∃ v', e = .returned v' /\ w'.ownsRow W.heap.size 69 4 v' its.length (itCells its) /\ Below W.heap.size W w') := fun v W hv => by
  have := ritems_any ls v W hv (by omega)
  rw [hri] at this
  exact this
 have HGI := Lib.hid (fun bc W hc => items_c bc ls its W hc (by omega))
 have HGL := Lib.hid (fun bc W hc => lines_c bc ls its W hc (by omega))
 have HLO : Hid ((∀ i, i < ls.length -> Rg (ls.getD i default).rng) -> ∀ i, i < ls.length -> LnOk (ls.getD i default)) := fun hr i hi => lnOk_of (hck _ (by rw [List.getD_eq_getElem?_getD, List.getElem?_eq_getElem hi]; exact List.getElem_mem hi)) (hr i hi)
 have HNM : Hid (∀ i, i < ls.length -> (ls.getD i default).name.size <= 100000 /\ (ls.getD i default).other.size <= 100000) := fun i hi => check_names (hck _ (by rw [List.getD_eq_getElem?_getD, List.getElem?_eq_getElem hi]; exact List.getElem_mem hi))
 have HNUM := Lib.hid (fun bc name a b c W hc => number_c bc ls its name a b c W hc (by omega))
 have HRNM := Lib.hid (fun x v W hv => rnumof_any its x v W hv (by omega))
 have HASC := Lib.hid hasc
 have HF := Lib.hid hF
 have HW := Lib.hid hw
 have HKD := Lib.hid hK
 clear hx hw hF hK h hn h110 hck hri hasc hl
 go_enter Tryz.func6, Tryz.ntmps6
 go_wp2_with fail
 refine HL.out.mono ?_
 rintro e w1 ⟨la, lc, ua, uc, vs, us, rfl, hll⟩
 have HLL := Lib.hid hll
 have HC1 := Lib.hid (HCC.out w1 _ ⟨us, hll.urg, rowAt_own hll.urow⟩ (HF.out.below hll.B))
 clear hll HL HCC HF
 go_wp2_with fail
 refine HC1.out.mono ?_
 rintro e w2 ⟨rfl, hb2⟩
 have hA := below_new w2 (.cells #[.int .i64 0, .int .i64 (-1)] 26)
 have kf := Blk.new w2 26 #[.int .i64 0, .int .i64 (-1)]
 have HL3 := Lib.hid (HLL.out.step (hb2.trans (hA.mono hb2.size)))
 clear hb2 hA HC1 HLL
 go_upto_region 5 with fail
 generalize w2.alloc (.cells #[.int .i64 0, .int .i64 (-1)] 26) = W3 at *
 generalize w2.heap.size = bf at *
 have HN3 := Lib.hid (HNE.out W3 vs _ HL3.out.lrg (rowAt_own HL3.out.lrow))
 go_wp2_with fail
 refine HN3.out.mono ?_
 rintro e w4 ⟨bc, rfl, hc4, hb4⟩
 have HL4 := Lib.hid (HL3.out.step hb4)
 have HC4 := Lib.hid hc4
 have kf4 := kf.below hb4 kf.lt
 have c0 : w4.cell? ⟨bf, 0, none⟩ = some (.int .i64 0) := kf4.cell 0
 have HI4 := Lib.hid (HIT.out _ w4 ⟨us, HL4.out.urg, rowAt_own HL4.out.urow⟩)
 clear hc4 hb4 kf kf4 HL3 HN3 HNE HIT
 go_wp2_with fail
 refine HI4.out.mono ?_
 rintro e w5 ⟨iv, rfl, hiv, hb5⟩
 obtain ⟨ia, ic, rfl, -⟩ := (rowAt_own hiv).form
 have HL5 := Lib.hid (HL4.out.step hb5)
 have HC5 := Lib.hid (HC4.out.below hb5 (Nat.le_refl _))
 have HIV5 : Hid (ItsAt w5 (.slice ia its.length ic) its) := rowAt_own hiv
 have HG5 := Lib.hid (HGI.out bc w5 HC5.out)
 clear hiv hb5 HI4 HL4 HC4 HGI c0
 go_wp2_with fail
 refine HG5.out.mono ?_
 rintro e w6 ⟨pv, rfl, hpv, hb6⟩
 obtain ⟨pa, pc, rfl, -⟩ := (rowAt_own hpv).form
 have HL6 := Lib.hid (HL5.out.step hb6)
 have HC6 := Lib.hid (HC5.out.below hb6 (Nat.le_refl _))
 have HIV6 : Hid (ItsAt w6 (.slice ia its.length ic) its) := HIV5.out.below hb6 (Nat.le_refl _)
 have HPV6 : Hid (ItsAt w6 (.slice pa its.length pc) its) := rowAt_own hpv
 have HG6 := Lib.hid (HGL.out bc w6 HC6.out)
 clear hpv hb6 HG5 HL5 HC5 HIV5 HGL
 have enn : ((its.length : Int) != (its.length : Int)) = false := by simp
 have enl : ((ls.length : Int) != (ls.length : Int)) = false := by simp
 go_wp2_with fail
 refine HG6.out.mono ?_
 rintro e w7 ⟨qv, rfl, hqv, hb7⟩
 obtain ⟨qa, qc, rfl⟩ : ∃ a c, qv = .slice a ls.length c := by obtain ⟨vs', _, h2⟩ := hqv; obtain ⟨a, c, e, _⟩ := h2.form; exact ⟨a, c, e⟩
 have HL7 := Lib.hid (HL6.out.step hb7)
 have HC7 := Lib.hid (HC6.out.below hb7 (Nat.le_refl _))
 have HIV7 : Hid (ItsAt w7 (.slice ia its.length ic) its) := HIV6.out.below hb7 (Nat.le_refl _)
 have HPV7 : Hid (ItsAt w7 (.slice pa its.length pc) its) := HPV6.out.below hb7 (Nat.le_refl _)
 have hlo := HLO.out fun i hi => (HL7.out.lrg.2 i hi).2
 have HT7 := Lib.hid (ctext_c bc ls its w7 HC7.out hl100 hlo (HW.out.below HL7.out.B))
 have HRT : Hid (∀ W, Below w7.heap.size w7 W -> Calls Tryz.prog 36 #[.slice ua ls.length uc] W fun e w' => e = .returned (.string ⟨(ctT ls).toArray⟩) /\ Below W.heap.size W w') := fun W hb => rct_any ls _ W ⟨us, (HL7.out.step hb).urg, rowAt_own (HL7.out.step hb).urow⟩ hl100 hlo (HW.out.below (HL7.out.step hb).B).lb ad cap (HKD.out.below (HL7.out.step hb).B)
 clear hqv hb7 HG6 HL6 HC6 HIV6 HPV6 HLO HW HKD hlo
 generalize (⟨(ctT ls).toArray⟩ : ByteArray) = CT at *
 go_wp2_with fail
 refine HT7.out.mono ?_
 rintro e w8 ⟨rfl, hb8⟩
 have HR8 := Lib.hid (HRT.out w8 hb8)
 have HL8 := Lib.hid (HL7.out.step hb8)
 have HC8 := Lib.hid (HC7.out.below hb8 (Nat.le_refl _))
 have HIV8 : Hid (ItsAt w8 (.slice ia its.length ic) its) := HIV7.out.below hb8 (Nat.le_refl _)
 have HPV8 : Hid (ItsAt w8 (.slice pa its.length pc) its) := HPV7.out.below hb8 (Nat.le_refl _)
 clear hb8 HT7 HRT HL7 HC7 HIV7 HPV7
 go_wp2_with fail
 refine HR8.out.mono ?_
 rintro e w9 ⟨rfl, hb9⟩
 have HL9 := Lib.hid (HL8.out.step hb9)
 have HC9 := Lib.hid (HC8.out.below hb9 (Nat.le_refl _))
 have HIV9 : Hid (ItsAt w9 (.slice ia its.length ic) its) := HIV8.out.below hb9 (Nat.le_refl _)
 have HPV9 : Hid (ItsAt w9 (.slice pa its.length pc) its) := HPV8.out.below hb9 (Nat.le_refl _)
 clear hb9 HR8 HL8 HC8 HIV8 HPV8
 go_wp2_with fail
 go_loopw [11] (fun kV wr => ∃ k : Nat, k <= its.length /\ kV = .int .i64 (k : Int) /\ Below w9.heap.size w9 wr) (fun kV _ => its.length - (intOf kV).toNat)
 case atStart => exact ⟨0, Nat.zero_le _, rfl, Below.refl _ _⟩
 case round =>
  obtain ⟨k, hk, rfl, hbr⟩ := hrel
  have HBR := Lib.hid hbr
  by_cases hlt : k < its.length
  ·obtain ⟨g, cap', e1, hg, x0, x1, x2, x3⟩ := (show ItsAt wr (.slice ia its.length ic) its from HIV9.out.below hbr (Nat.le_refl _)).at k hlt
   simp at e1
   obtain ⟨rfl, rfl⟩ := e1
   obtain ⟨g', cap', e1, hg', y0, y1, y2, y3⟩ := (show ItsAt wr (.slice pa its.length pc) its from HPV9.out.below hbr (Nat.le_refl _)).at k hlt
   simp at e1
   obtain ⟨rfl, rfl⟩ := e1
   have hk0 : (0 : Int) <= (k : Int) := by omega
   have hk2 : (k : Int) < (its.length : Int) := by omega
   have hns := numb_self HASC.out hlt
   generalize its.getD k default = X at *
   have hA := below_new wr (.cells #[.int .i64 X.a, .int .i64 X.b, .int .i64 X.c] 42)
   have HKV := Lib.hid (Blk.new wr 42 #[.int .i64 X.a, .int .i64 X.b, .int .i64 X.c])
   have HBA : Hid (Below w9.heap.size w9 (wr.alloc (.cells #[.int .i64 X.a, .int .i64 X.b, .int .i64 X.c] 42))) := hbr.trans (hA.mono hbr.size)
   have z0 := (hA.cell (p := ⟨g, k * 4, none⟩) hg).trans x0
   have t0 := (hA.cell (p := ⟨g', k * 4, none⟩) hg').trans y0
   have t1 := (hA.cell (p := ⟨g', k * 4 + 1, none⟩) hg').trans y1
   have t2 := (hA.cell (p := ⟨g', k * 4 + 2, none⟩) hg').trans y2
   have t3 := (hA.cell (p := ⟨g', k * 4 + 3, none⟩) hg').trans y3
   clear hbr hA
   go_upto_region 16 with fail
   generalize wr.alloc (.cells #[.int .i64 X.a, .int .i64 X.b, .int .i64 X.c] 42) = W2 at *
   generalize wr.heap.size = bv at *
   have v0 : W2.cell? ⟨bv, 0, none⟩ = some (.int .i64 X.a) := HKV.out.cell 0
   have v1 : W2.cell? ⟨bv, 1, none⟩ = some (.int .i64 X.b) := HKV.out.cell 1
   have v2 : W2.cell? ⟨bv, 2, none⟩ = some (.int .i64 X.c) := HKV.out.cell 2
   have HNK : Hid (∀ d os, Calls Tryz.prog 37 #[.pointer (some ⟨bc, 0, none⟩), .string X.name, .agg #[.int .i64 X.a, .int .i64 X.b, .int .i64 X.c]] (grow (redrawn W2 d) os) fun e w'' => e = .returned (.int .i64 (k : Int)) /\ ∃ p : Regrown, w'' = grow (redrawn W2 p.d) p.os) := fun d os => by
    have h1 := HNUM.out bc X.name X.a X.b X.c (grow (redrawn W2 d) os) ((HC9.out.below HBA.out (Nat.le_refl _)).below (below_regrown W2 d os) (Nat.le_refl _))
    rw [show (⟨X.name, X.a, X.b, X.c⟩ : It) = X from rfl, hns] at h1
    exact Calls.regrown_of h1
   go_cut [109] from 67 to 109 (fun c wx => c = .bool false /\ Below W2.heap.size W2 wx)
   case first =>
    have kz0 := cell_regrown z0
    have kt0 := cell_regrown t0
    have kt1 := cell_regrown t1
    have kt2 := cell_regrown t2
    have kt3 := cell_regrown t3
    have kv0 := cell_regrown v0
    have kv1 := cell_regrown v1
    have kv2 := cell_regrown v2
    have e3 : ∀ W, (Op.equalIn 10000 42 (.agg #[.int .i64 X.a, .int .i64 X.b, .int .i64 X.c]) (.agg #[.int .i64 X.a, .int .i64 X.b, .int .i64 X.c])).run Tryz.prog W = .ok true W := fun W => by rw [eq3t]; simp
    have enk : ((k : Int) != (k : Int)) = false := by simp
    have ens : (X.name.toList == X.name.toList) = true := by simp
    clear x0 x1 x2 x3 y0 y1 y2 y3 z0 t0 t1 t2 t3 v0 v1 v2 hns
    refine wp_region_quiet_below mixedP (by kernel_rfl) ?_
    repeat (quiet_step (first | (go_at_call 37; exact HNK.out _ _)))
    refine wpQuiet_nil ?_
    intro _ hw'
    obtain ⟨⟨dq, osq⟩, hw''⟩ := hw'
    subst hw''
    have hbq := Lib.hid (below_regrown W2 dq osq)
    clear kz0 kt0 kt1 kt2 kt3 kv0 kv1 kv2 HNK
    generalize grow (redrawn W2 dq) osq = wq at *
    go_wp2
    go_meet
    case rel => exact ⟨rfl, hbq.out⟩
   case rest =>
    obtain ⟨rfl, hbc⟩ := hcut
    have HBC : Hid (Below w9.heap.size w9 wc) := HBA.out.trans (hbc.mono HBA.out.size)
    clear hbc HBA HKV HNK HBR x0 x1 x2 x3 y0 y1 y2 y3 z0 t0 t1 t2 t3 v0 v1 v2 hns
    go_wp2
    go_roundw
    case rel => exact ⟨k + 1, by omega, by go_num, HBC.out⟩
    case measure => simp [intOf]; omega
  ·have hni : ¬ (k : Int) < (its.length : Int) := by omega
   obtain rfl : k = its.length := by omega
   have HLX := Lib.hid (HL9.out.step hbr)
   have HCX := Lib.hid (HC9.out.below hbr (Nat.le_refl _))
   have HIX : Hid (ItsAt wr (.slice ia its.length ic) its) := HIV9.out.below hbr (Nat.le_refl _)
   clear hbr HBR HL9 HC9 HIV9 HPV9
   go_wp2_with fail
   try rw [show decide ((its.length : Int) < (its.length : Int)) = false from decide_eq_false hni]
   go_loopw [13] (fun iV wz => ∃ i : Nat, i <= ls.length /\ iV = .int .i64 (i : Int) /\ LL w wz (.slice la ls.length lc) (.slice ua ls.length uc) ls vs us /\ CatAt wz bc ls its /\ ItsAt wz (.slice ia its.length ic) its) (fun iV _ => ls.length - (intOf iV).toNat)
   case atStart => exact ⟨0, Nat.zero_le _, rfl, HLX.out, HCX.out, HIX.out⟩
   case round =>
    clear HLX HCX HIX
    obtain ⟨i, hi, rfl, hll, hca, hit⟩ := hrel
    have HLZ := Lib.hid hll
    have HCZ := Lib.hid hca
    have HIZ := Lib.hid hit
    by_cases hlt : i < ls.length
    ·obtain ⟨g, cap1, rv, e1, hg, hsp, hrg, -, c1, -, -, -, c5, c6⟩ := (show LnsAt wr (.slice la ls.length lc) ls from ⟨vs, hll.lrg, rowAt_own hll.lrow⟩).at i hlt
     simp at e1
     obtain ⟨rfl, rfl⟩ := e1
     obtain ⟨g', cap2, ra, rc, e2, hg', hns, -, -, d1, -, -, -, d5, d6⟩ := (show RLs wr (.slice ua ls.length uc) ls from ⟨us, hll.urg, rowAt_own hll.urow⟩).at i hlt
     simp at e2
     obtain ⟨rfl, rfl⟩ := e2
     have hi0 : (0 : Int) <= (i : Int) := by omega
     have hi1 : (i : Int) < (ls.length : Int) := by omega
     obtain ⟨hn1, hn2⟩ := HNM.out i hlt
     obtain ⟨X, hX⟩ : ∃ X, ls.getD i default = X := ⟨_, rfl⟩
     rw [hX] at hsp hrg c1 c5 d1 d5 d6 hns hn1 hn2
     obtain ⟨sa, sc, rfl⟩ := hsp.form
     have ints_of : ∀ {B : Nat} {W : World} {v : Value} {l : List Nat}, W.ownsRow B 3 1 v l.length (icells (l.map fun (k : Nat) => (k : Int))) -> ∃ a c, v = .slice a l.length c /\ IntsIn W a (l.map fun (k : Nat) => (k : Int)) := fun {B W v l} h => by
      obtain ⟨a, c, e, _, _, h4, _⟩ := intsK_own (l := l.map fun (k : Nat) => (k : Int)) (by simpa using h)
      exact ⟨a, c, by simpa using e, h4.ints⟩
     have HAX : Hid (∀ (N : ByteArray), N.size <= 100000 -> ∀ W, Below wr.heap.size wr W -> Calls Tryz.prog 39 #[.pointer (some ⟨bc, 0, none⟩), .string N, .agg #[.slice sa X.rng.length sc]] W fun e w' => ∃ a c, e = .returned (.slice a (amongF its N X.rng).length c) /\ IntsIn w' a ((amongF its N X.rng).map fun (k : Nat) => (k : Int)) /\ Below W.heap.size W w') := fun N hN W hW => (among_c bc ls its N X.rng hrg _ W (HCZ.out.below hW (Nat.le_refl _)) (by omega) hN (hsp.below hW (Nat.le_refl _))).mono fun e w' ⟨v', h1, h2, h3⟩ => by
      obtain ⟨a, c, e', h4⟩ := ints_of h2
      exact ⟨a, c, by rw [h1, e'], h4, h3⟩
     have HRX : Hid (∀ (N : ByteArray) W, Below wr.heap.size wr W -> Calls Tryz.prog 40 #[.slice ia its.length ic, .string N, .slice ra (tp X.rng).length rc] W fun e w' => ∃ a c, e = .returned (.slice a (amongF its N X.rng).length c) /\ IntsIn w' a ((amongF its N X.rng).map fun (k : Nat) => (k : Int)) /\ Below W.heap.size W w') := fun N W hW => by
      have hq := ramong_any its N X.rng hrg (.slice ia its.length ic) _ W (HIZ.out.below hW (Nat.le_refl _)) (by omega) (hns.below hW (Nat.le_refl _))
      rw [ramP_among HASC.out] at hq
      refine hq.mono fun e w' ⟨v', h1, h2, h3⟩ => ?_
      obtain ⟨a, c, e', h4⟩ := ints_of h2
      exact ⟨a, c, by rw [h1, e'], h4, h3⟩
     have HA1 := Lib.hid (HAX.out X.name hn1)
     have HA2 := Lib.hid (HAX.out X.other hn2)
     have HR1 := Lib.hid (HRX.out X.name)
     have HR2 := Lib.hid (HRX.out X.other)
     have l1 := amongF_len its X.name X.rng
     have l2 := amongF_len its X.other X.rng
     obtain ⟨M1, hM1⟩ : ∃ M, amongF its X.name X.rng = M := ⟨_, rfl⟩
     obtain ⟨M2, hM2⟩ : ∃ M, amongF its X.other X.rng = M := ⟨_, rfl⟩
     rw [hM1] at HA1 HR1 l1
     rw [hM2] at HA2 HR2 l2
     obtain ⟨N1, hN1⟩ : ∃ N, X.name = N := ⟨_, rfl⟩
     obtain ⟨N2, hN2⟩ : ∃ N, X.other = N := ⟨_, rfl⟩
     rw [hN1] at HA1 HR1 c1 d1
     rw [hN2] at HA2 HR2 c5 d5
     generalize X.rng.length = RL at *
     generalize (tp X.rng).length = TL at *
     have HS : Hid (∀ (M : List Nat), M.length <= 24 -> ∀ W a1 a2 c1 c2, IntsIn W a1 (M.map fun (k : Nat) => (k : Int)) -> IntsIn W a2 (M.map fun (k : Nat) => (k : Int)) -> Calls Tryz.prog 38 #[.slice a1 M.length c1, .slice a2 M.length c2] W fun e w' => e = .returned (.bool true) /\ Below W.heap.size W w') := fun M hM W a1 a2 c1 c2 h1 h2 => by
      have := same_ints (M.map fun (k : Nat) => (k : Int)) a1 a2 c1 c2 W h1 h2 (by simp; omega)
      simpa using this
     have HS1 := Lib.hid (HS.out M1 (by omega))
     have HS2 := Lib.hid (HS.out M2 (by omega))
     have SC : Hid (∀ W, Below wr.heap.size wr W -> W.cell? ⟨g, i * 7 + 1, none⟩ = some (.string N1) /\ W.cell? ⟨g, i * 7 + 5, none⟩ = some (.string N2) /\ W.cell? ⟨g, i * 7 + 6, none⟩ = some (.slice sa RL sc) /\ W.cell? ⟨g', i * 7 + 1, none⟩ = some (.string N1) /\ W.cell? ⟨g', i * 7 + 5, none⟩ = some (.string N2) /\ W.cell? ⟨g', i * 7 + 6, none⟩ = some (.slice ra TL rc)) := fun W h => ⟨(h.cell (p := ⟨g, i * 7 + 1, none⟩) hg).trans c1, (h.cell (p := ⟨g, i * 7 + 5, none⟩) hg).trans c5, (h.cell (p := ⟨g, i * 7 + 6, none⟩) hg).trans c6, (h.cell (p := ⟨g', i * 7 + 1, none⟩) hg').trans d1, (h.cell (p := ⟨g', i * 7 + 5, none⟩) hg').trans d5, (h.cell (p := ⟨g', i * 7 + 6, none⟩) hg').trans d6⟩
     clear hX hsp hrg hns hn1 hn2 hM1 hM2 hN1 hN2 HAX HRX HS l1 l2 ints_of hll hca hit c1 c5 c6 d1 d5 d6
     go_upto_region 21 with fail
     go_cut [169] from 110 to 169 (fun c wx => c = .bool false /\ Below wr.heap.size wr wx)
     case first =>
      have D0 : Below wr.heap.size wr wr.drew := (Below.refl _ _).drew
      clear HLZ HCZ HIZ
      go_region_held3 (fun W => W.cell? ⟨g, i * 7 + 1, none⟩ = some (.string N1) /\ W.cell? ⟨g, i * 7 + 5, none⟩ = some (.string N2) /\ W.cell? ⟨g, i * 7 + 6, none⟩ = some (.slice sa RL sc) /\ W.cell? ⟨g', i * 7 + 1, none⟩ = some (.string N1) /\ W.cell? ⟨g', i * 7 + 5, none⟩ = some (.string N2) /\ W.cell? ⟨g', i * 7 + 6, none⟩ = some (.slice ra TL rc)) (first | exact SC.out _ D0 | exact SC.out _ D1 | exact SC.out _ D2 | exact SC.out _ D3 | exact SC.out _ D4 | exact SC.out _ D5 | exact SC.out _ D6)
       (first
        | ((with_reducible refine (HA1.out _ D0).mono ?_); rintro e x1 ⟨a1, b1, rfl, hi1', hb1⟩; have D1 : Below wr.heap.size wr x1 := D0.trans (hb1.mono D0.size); clear HA1 D0 hb1)
        | ((with_reducible refine (HR1.out _ D1).mono ?_); rintro e x2 ⟨a2, b2, rfl, hi2', hb2⟩; have D2 : Below wr.heap.size wr x2 := D1.trans (hb2.mono D1.size); have hj1 := hi1'.below hb2; clear HR1 D1 hb2 hi1')
        | ((with_reducible refine (HS1.out _ _ _ _ _ hj1 hi2').mono ?_); rintro e x3 ⟨rfl, hb3⟩; have D3 : Below wr.heap.size wr x3 := D2.trans (hb3.mono D2.size); clear HS1 D2 hb3 hj1 hi2')
        | ((with_reducible refine (HA2.out _ D3).mono ?_); rintro e x4 ⟨a4, b4, rfl, hi4', hb4⟩; have D4 : Below wr.heap.size wr x4 := D3.trans (hb4.mono D3.size); clear HA2 D3 hb4)
        | ((with_reducible refine (HR2.out _ D4).mono ?_); rintro e x5 ⟨a5, b5, rfl, hi5', hb5⟩; have D5 : Below wr.heap.size wr x5 := D4.trans (hb5.mono D4.size); have hj4 := hi4'.below hb5; clear HR2 D4 hb5 hi4')
        | ((with_reducible refine (HS2.out _ _ _ _ _ hj4 hi5').mono ?_); rintro e x6 ⟨rfl, hb6⟩; have D6 : Below wr.heap.size wr x6 := D5.trans (hb6.mono D5.size); clear HS2 D5 hb6 hj4 hi5'))
      have HD6 := Lib.hid D6
      clear D6 SC
      go_wp2
      go_meet
      case rel => exact ⟨rfl, HD6.out⟩
     case rest =>
      obtain ⟨rfl, hbc⟩ := hcut
      have HL2 := Lib.hid (HLZ.out.step hbc)
      have HC2 := Lib.hid (HCZ.out.below hbc (Nat.le_refl _))
      have HI2 : Hid (ItsAt wc (.slice ia its.length ic) its) := HIZ.out.below hbc (Nat.le_refl _)
      clear hbc HLZ HCZ HIZ HA1 HA2 HR1 HR2 HS1 HS2 SC
      go_wp2
      go_roundw
      case rel => exact ⟨i + 1, by omega, by go_num, HL2.out, HC2.out, HI2.out⟩
      case measure => simp [intOf]; omega
    ·have hni2 : ¬ (i : Int) < (ls.length : Int) := by omega
     have HZ1 := Lib.hid (HNUM.out bc ⟨#[122, 122, 122]⟩ 0 0 0 wr hca)
     have HZ2 := Lib.hid (fun W hW => HRNM.out ⟨⟨#[122, 122, 122]⟩, 0, 0, 0⟩ (.slice ia its.length ic) W (show ItsAt W _ its from HIZ.out.below (w' := W) (B := wr.heap.size) hW (Nat.le_refl _)))
     have HBZ := Lib.hid hll.B
     clear hll hca hit HLZ HCZ HIZ HNUM HRNM
     generalize ctNumb its ⟨⟨#[122, 122, 122]⟩, 0, 0, 0⟩ = ZZ at *
     go_wp2_with fail
     refine HZ1.out.mono ?_
     rintro e y1 ⟨rfl, hb1⟩
     have HY1 := Lib.hid (HZ2.out y1 hb1)
     have HB1 : Hid (Below w.heap.size w y1) := HBZ.out.trans (hb1.mono HBZ.out.size)
     clear hb1 HZ1 HZ2 HBZ
     go_wp2_with fail
     refine HY1.out.mono ?_
     rintro e y2 ⟨rfl, hb2⟩
     have HB2 : Hid (Below w.heap.size w y2) := HB1.out.trans (hb2.mono HB1.out.size)
     clear hb2 HB1 HY1
     go_wp2
     go_ret
     exact ⟨by simp, HB2.out⟩
theorem cmakes_any (xs : List Raw) (xa : Option Addr) (xc : Nat) (w : World) (hx : RawsAt w xa xs) (hl : xs.length <= 1048576) (hw : Lw w) (hF : FineR w) (ad : Addr) (cap : Nat) (hK : KindsAt w ad cap) : Calls Tryz.prog 6 #[.slice xa xs.length xc] w fun r w' => r = .returned (.bool true) /\ Below w.heap.size w w' := by
 cases h : linesF xs [] with
 | none => exact cmakes_none xs xa xc w hx hl hw hF h
 | some ls =>
  by_cases h110 : xs.length <= 110
  ·have hle : xs.length = ls.length := by have := linesF_len xs [] ls h; simpa using this.symm
   rw [hle]
   cases hn : newF ls with
   | error e => exact cmakes_err xs xa xc w hx hl hw hF ls h h110 e.1 e.2 hn
   | ok its => exact cmakes_ok xs xa xc w hx hl hw hF ad cap hK ls h h110 its hn
  ·exact cmakes_long xs xa xc w hx hl hw hF ls h h110
end
end Go.Proofs.YtmhophccdfmngaaGreatDoor
