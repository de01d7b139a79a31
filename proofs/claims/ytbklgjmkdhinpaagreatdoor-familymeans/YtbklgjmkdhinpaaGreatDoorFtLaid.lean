/- What the row of FamilyMeans gives of the table of powers; and a world in which its variables hold. -/
import Derived.Test.YtbklgjmkdhinpaaGreatDoorSrBase
import Derived.Test.YtbklgjmkdhinpaaGreatDoorFmIn
import Derived.Test.YtbklgjmkdhinpaaGreatDoorErBare
import Derived.Test.YtbklgjmkdhinpaaGreatDoorBdNMap
import Derived.Shelf.Vars
set_option maxHeartbeats 8000000
set_option maxRecDepth 100000
namespace Go.Proofs.YtbklgjmkdhinpaaGreatDoor.Fm
open Go.ChangeShapes Go.WideShapes Go.ChangeAt Go.RowKit Go.Maps Go.Proofs.YtbklgjmkdhinpaaGreatDoor.Bd Go.Proofs.YtbklgjmkdhinpaaGreatDoor.Bd.Num
def Tab10 (w : World) : Prop := Lib.TabIs Tryz.prog w "internal/strconv.uint64pow10" .u64 Lib.pow10Tab
theorem Tab10.below {w w' : World} (h : Tab10 w) (hb : Below w.heap.size w w') : Tab10 w' := Lib.tabBelow_of_tabIs h w' hb
theorem fmeans_walk (vars : Nat) (hv6 : vars <= 6) (xs : List Quad) (va : Value) (w : World) (hg : Glob w) (ht : Tab10 w) (hx : ArgQuads w va xs) (hxl : xs.length <= 20) :
  Calls Tryz.prog 3 #[.int .i64 (vars : Int), va] w fun e w' => e = .returned (.bool true) /\ Below w.heap.size w w' := by
 have HM := Lib.hid (lsets_yes vars hv6 xs va w hx hxl)
 obtain ⟨a0, c0, rfl, -⟩ := hx
 have HSMALL := Lib.hid (famT_small hv6 xs _ small_start)
 have HGL := Lib.hid hg
 have HTB := Lib.hid ht
 clear hg ht
 obtain ⟨P, hP⟩ : ∃ P, P = 2 ^ vars := ⟨_, rfl⟩
 have HPP := Lib.hid hP
 have p6 : P <= 64 := by rw [hP]; exact Nat.pow_le_pow_right (n := 2) (by omega) hv6
 have w2e : IntKind.u64.wrap ((2 : Int) ^ vars) = (P : Int) := by
  have e2 : (2 : Int) ^ vars = (P : Int) := by rw [hP]; simp
  rw [e2]; exact IntWalk.u64_in _ ⟨by omega, by omega⟩
 clear hP
 go_enter Tryz.func3, Tryz.ntmps3
 go_wp2_with fail
 refine HM.out.mono ?_
 rintro e w1 ⟨s, b, O, ns, al, ga, c, tv, gs, rfl, hm⟩
 have hints := hm.ints
 have hfams := hm.fams
 have HSEM := Lib.hid hm.sems
 have HF := Lib.hid hm.fam
 have HB1 := Lib.hid hm.below
 have hgl : gs.length = al.length := by rw [hfams.len, hm.sems.len]
 have hne : 0 < al.length := by
  have := hm.sems.len
  rw [famT_len] at this
  simp at this; omega
 have hN27 : al.length <= 22 := by
  have := hm.sems.len
  rw [famT_len] at this
  simp at this; omega
 have hTN : (famT vars [fun _ => False, fun y => y = 0] xs).length = al.length := hm.sems.len.symm
 clear hm
 generalize famT vars [fun _ => False, fun y => y = 0] xs = T at *
 obtain ⟨tg, tc, rfl, htg, htc⟩ := hfams.cell (by omega)
 obtain ⟨N, hN⟩ : ∃ N, N = al.length := ⟨_, rfl⟩
 have HTC : Hid (∀ X, Below w1.heap.size w1 X -> ∀ i (hi : i < gs.length), X.cell? ⟨tg, i, none⟩ = some (.map (some gs[i]))) := fun X hX i hi => (hX.cell (p := ⟨tg, i, none⟩) htg).trans (htc i _ (List.getElem?_eq_getElem hi))
 have HIC : Hid (∀ X, Below w1.heap.size w1 X -> ∀ i (hi : i < al.length), X.cell? ⟨ga, i, none⟩ = some (.int .i64 al[i])) := fun X hX i hi => (hX.cell (p := ⟨ga, i, none⟩) hints.lt).trans (hints.cells i hi)
 have HFMS : Hid (∀ X, Below w1.heap.size w1 X -> ∀ i (hi : i < gs.length) (h1 : i < T.length), FM X gs[i] T[i]) := fun X hX i hi h1 => (hfams.fams i hi h1).below hX
 have HTN := Lib.hid hTN
 have HGLN := Lib.hid hgl
 have HN := Lib.hid hN
 rw [hgl, <- hN]
 rw [<- hN] at hne hN27
 have eNN : (N != N) = false := by simp
 clear hints hfams htc hgl hTN hN HM
 go_wp2_with fail
 go_loopw [9] (fun iV wr => ∃ i : Nat, i <= N /\ iV = .int .i64 (i : Int) /\ Below w1.heap.size w1 wr) (fun iV _ => N - (intOf iV).toNat)
 case atStart => exact ⟨0, Nat.zero_le _, rfl, Below.refl _ _⟩
 case round =>
  obtain ⟨w0, hw0⟩ : ∃ w0, w0 = wr := ⟨_, rfl⟩
  subst hw0
  obtain ⟨i, hi, rfl, hbi⟩ := hrel
  by_cases hlt : i < N
  ·have HBI := Lib.hid hbi
   have i1 : (i : Int) < (N : Int) := by omega
   have li : i < al.length := by rw [<- HN.out]; exact hlt
   have gi : i < gs.length := by rw [HGLN.out]; exact li
   have ti : i < T.length := by rw [HTN.out]; exact li
   have SC : Hid (∀ X, Below w1.heap.size w1 X -> X.cell? ⟨ga, i, none⟩ = some (.int .i64 al[i]) /\ X.cell? ⟨tg, i, none⟩ = some (.map (some gs[i]))) := fun X hX => ⟨HIC.out X hX i li, HTC.out X hX i gi⟩
   have FX : Hid (∀ X, Below w1.heap.size w1 X -> FM X gs[i] T[i]) := fun X hX => HFMS.out X hX i gi ti
   have SM : Hid (∀ x, T[i] x -> x < 64) := HSMALL.out _ (List.getElem_mem ti)
   have HX : Hid (hasB ns al[i] = true) := HSEM.out.has _ (List.getElem_mem li)
   have MEM : Hid (∀ y, In ns al[i] y ↔ T[i] y) := HSEM.out.mem i li ti
   have hbi0 := hbi
   clear hbi
   generalize T[i] = A at *
   generalize gs[i] = g at *
   generalize al[i] = x at *
   clear li gi ti
   have s0 := (SC.out _ hbi0).2
   have HRS := Lib.hid (rsets_any w0 g (FX.out w0 hbi0) SM.out)
   unfold RSets at HRS
   clear hbi0
   go_wp2_with fail
   refine HRS.out.mono ?_
   rintro e w2 ⟨L, a2, c2, rfl, hrow, hsL, hmL, hb2⟩
   have HB2 := Lib.hid (HBI.out.trans (hb2.mono HBI.out.size))
   have HU2 : Hid (∀ W, Below w2.heap.size w2 W -> UArg W (.slice a2 L.length c2) L) := fun W hW => (UArg.of_row hrow).below hW
   have HNL := Lib.hid (nsN_is HF.out.good HF.out.v24 HX.out hsL (fun y => (hmL y).trans (MEM.out y).symm))
   have hl64 : L.length <= 64 := small_len hsL (fun y hy => SM.out y ((hmL y).1 hy))
   have s2 := (SC.out _ HB2.out).1
   have HLI := Lib.hid (list_any w2 (HF.out.new HB2.out) hv6 x HX.out (L.length : Int) (by rw [HNL.out]; omega))
   unfold ListOut at HLI
   have HSL := Lib.hid hsL
   have HML : Hid (∀ y, y ∈ L ↔ In ns x y) := fun y => (hmL y).trans (MEM.out y).symm
   clear hrow hsL hmL hb2 HRS s0
   go_wp2_with fail
   refine HLI.out.mono ?_
   rintro e w3 ⟨L3, a3, c3, rfl, hu3, hs3, hm3, -, hb3⟩
   obtain rfl : L3 = L := rising_eq hs3 HSL.out (fun y => (hm3 y).trans (HML.out y).symm)
   have HB3 := Lib.hid (HB2.out.trans (hb3.mono HB2.out.size))
   have HU3 := Lib.hid hu3
   have HU23 : Hid (∀ W, Below w3.heap.size w3 W -> UArg W (.slice a2 L3.length c2) L3) := fun W hW => HU2.out W (hb3.trans (hW.mono hb3.size))
   have s3 := (SC.out _ HB3.out).1
   have HCN := Lib.hid (count_any w3 (HF.out.new HB3.out) x HX.out)
   rw [HNL.out] at HCN
   clear hu3 hs3 hm3 hb3 HLI HU2 s2
   go_wp2_with fail
   refine HCN.out.mono ?_
   rintro e w4 ⟨v4, rfl, hv4, hb4⟩
   obtain ⟨⟨xa, xn, xc⟩, rfl, hx4⟩ := hv4
   have hv4 : NatAt w4 (.agg #[.slice xa xn xc]) L3.length := ⟨⟨xa, xn, xc⟩, rfl, hx4⟩
   have hbx := below_new w4 (.cells #[.slice xa xn xc] 38)
   have cbx : (w4.alloc (.cells #[.slice xa xn xc] 38)).cell? ⟨w4.heap.size, 0, none⟩ = some (.slice xa xn xc) := by simp
   have hb5 := hb4.trans (hbx.mono hb4.size)
   have szx : w4.heap.size < (w4.alloc (.cells #[.slice xa xn xc] 38)).heap.size := by simp
   have HNAT := Lib.hid (hv4.new hbx)
   have HB5 := Lib.hid (HB3.out.trans (hb5.mono HB3.out.size))
   have HU3b : Hid (∀ W, Below (w4.alloc (.cells #[.slice xa xn xc] 38)).heap.size (w4.alloc (.cells #[.slice xa xn xc] 38)) W -> UArg W (.slice a3 L3.length c3) L3 /\ UArg W (.slice a2 L3.length c2) L3) := fun W hW => ⟨HU3.out W (hb5.trans (hW.mono hb5.size)), HU23.out W (hb5.trans (hW.mono hb5.size))⟩
   have s5 := (SC.out _ HB5.out).1
   have HLM := Lib.hid (list_much _ (HF.out.new HB5.out) x HX.out ((L3.length : Int) - 1) (by rw [HNL.out]; omega))
   clear hv4 hx4 hbx hb5 hb4 HCN HU3 HU23 s3
   unfold NV.val
   go_upto_region 12 with fail
   generalize (w4.alloc (.cells #[.slice xa xn xc] 38)) = w5 at *
   generalize w4.heap.size = bx at *
   have CBX := Lib.hid cbx
   have SZX := Lib.hid szx
   clear cbx szx
   go_wp2_with fail
   refine HLM.out.mono ?_
   rintro e w6 ⟨rfl, hb6⟩
   have HB6 := Lib.hid hb6
   have HG6 : Glob w6 := HGL.out.below (HB1.out.trans ((HB5.out.trans (hb6.mono HB5.out.size)).mono HB1.out.size))
   have HBE := Lib.hid (bare_errno 4 4 w6 HG6)
   have b44 : ((4 : Int) == 4) = true := rfl
   rw [b44] at HBE
   clear hb6 HLM HG6 b44 s5
   go_wp2_with fail
   refine HBE.out.mono ?_
   rintro e w7 ⟨rfl, hb7⟩
   have HB7 := Lib.hid (HB6.out.trans (hb7.mono HB6.out.size))
   have HSA := Lib.hid (sameU_any w7 _ _ L3 L3 (HU3b.out w7 HB7.out).1 (HU3b.out w7 HB7.out).2 (by omega))
   rw [decide_eq_true rfl] at HSA
   clear hb7 HBE HB6 HU3b
   go_wp2_with fail
   refine HSA.out.mono ?_
   rintro e w8 ⟨rfl, hb8⟩
   have hb8' := HB7.out.trans (hb8.mono HB7.out.size)
   have HB8 := Lib.hid hb8'
   have c8 := (hb8'.cell (p := ⟨bx, 0, none⟩) SZX.out).trans CBX.out
   have HT8 : Tab10 w8 := HTB.out.below (HB1.out.trans ((HB5.out.trans (hb8'.mono HB5.out.size)).mono HB1.out.size))
   have HTX := Lib.hid (text_c (HNAT.out.new hb8') (by omega) HT8)
   clear hb8 hb8' HSA HB7 HT8
   go_wp2_with fail
   refine HTX.out.mono ?_
   rintro e w9 ⟨rfl, hb9⟩
   have HB9 := Lib.hid (HB8.out.trans (hb9.mono HB8.out.size))
   have HT9 : Tab10 (w9.alloc (.cells #[.int .i64 (L3.length : Int)] 3)) := HTB.out.below (HB1.out.trans (((HB5.out.trans (HB9.out.mono HB5.out.size)).alloc (HB5.out.trans (HB9.out.mono HB5.out.size)).size _).mono HB1.out.size))
   have HTO := Lib.hid (told1_any L3.length (by omega) w9.heap.size 1 (w9.alloc (.cells #[.int .i64 (L3.length : Int)] 3)) HT9 (by simp))
   have HBA := Lib.hid (below_new w9 (.cells #[.int .i64 (L3.length : Int)] 3))
   clear hb9 HTX HB8 HT9 c8 HNAT CBX
   generalize (⟨(Lib.decDigits L3.length).toArray⟩ : ByteArray) = R at *
   go_wp2_with fail
   refine HTO.out.mono ?_
   rintro e w10 ⟨rfl, hb10⟩
   have HB10 : Hid (Below w1.heap.size w1 w10) := HB5.out.trans ((HB9.out.trans ((HBA.out.trans (hb10.mono HBA.out.size)).mono HB9.out.size)).mono HB5.out.size)
   clear hb10 HTO HBA HB9 HB5 HB3 HB2 HNL HSL HML
   go_wp2_with fail
   go_loopw [17] (fun tV wr => ∃ t : Nat, t <= P /\ tV = .int .u64 (t : Int) /\ Below w1.heap.size w1 wr) (fun tV _ => P - (intOf tV).toNat)
   case atStart => exact ⟨0, Nat.zero_le _, rfl, HB10.out⟩
   case round =>
    obtain ⟨y0, hy0⟩ : ∃ y0, y0 = wr := ⟨_, rfl⟩
    subst hy0
    obtain ⟨t, htP, rfl, hbt⟩ := hrel
    clear HB10
    by_cases htl : t < P
    ·have t1 : (t : Int) < (P : Int) := by omega
     have q0 := (SC.out _ hbt).1
     have HBT := Lib.hid hbt
     have HIN := Lib.hid (in_any (HF.out.new hbt) x HX.out t (by rw [<- HPP.out]; exact htl))
     clear hbt
     have HBV : Hid (∀ X, Below w1.heap.size w1 X -> (Instr.lookup 30 (.map (some g)) (.int .u64 (t : Int)) false).run Tryz.prog X = .ok (.bool (inB ns x t)) X) := fun X hX => by
      have hd : Decidable (A t) := Classical.propDecidable _
      have := (FX.out X hX).look (x := t) (show UOk t by unfold UOk; omega)
      rw [this]
      have e : decide (A t) = inB ns x t := by
       rw [Bool.eq_iff_iff, decide_eq_true_iff]; exact (MEM.out t).symm
      rw [e]
     have tw : IntKind.u64.wrap ((t : Int) + 1) = ((t + 1 : Nat) : Int) := by rw [IntKind.wrap_u64]; omega
     generalize inB ns x t = bb at *
     have hbb : (bb != bb) = false := by simp
     go_wp2_with fail
     refine HIN.out.mono ?_
     rintro e y1 ⟨rfl, hb1⟩
     have hb1' := HBT.out.trans (hb1.mono HBT.out.size)
     have q1 := (SC.out _ hb1').2
     have hlk := HBV.out _ hb1'
     have HBY := Lib.hid hb1'
     clear hb1 hb1' HIN HBV q0
     go_wp2
     go_roundw
     case rel => exact ⟨t + 1, by omega, by first | rfl | go_num | (congr 1; omega), HBY.out⟩
     case measure => simp [intOf]; omega
    ·obtain rfl : P = t := by omega
     have HBK := Lib.hid hbt
     clear hbt
     go_wp2
     go_roundw
     case rel => first | exact ⟨i + 1, by omega, by go_num, HBK.out⟩ | ((repeat apply Exists.intro); exact ⟨⟨i + 1, by omega, by go_num, HBK.out⟩, rfl⟩)
     case measure => simp [intOf]; omega
  ·obtain rfl : N = i := by omega
   have HBK := Lib.hid (HB1.out.trans (hbi.mono HB1.out.size))
   clear hbi
   go_wp2
   go_ret
   exact ⟨rfl, HBK.out⟩
end Go.Proofs.YtbklgjmkdhinpaaGreatDoor.Fm
namespace Go.Proofs.YtbklgjmkdhinpaaGreatDoor
open Go.ChangeShapes Go.WideShapes Go.ChangeAt Go.RowKit Go.Shelf
theorem gTab : Tryz.prog.globalNamed "internal/strconv.uint64pow10" = some 0 := by kernel_rfl
theorem gTabType : (Tryz.prog.globals[0]?).map (·.type) = some 170 := by kernel_rfl
theorem cellsTab : Tryz.prog.cellsOf 170 = 20 := by kernel_rfl
theorem cellsTabE : Tryz.prog.cellsOf 76 = 1 := by kernel_rfl
theorem tab_of {W : World} {l : List (String × DataW Unit)} (h : laidMetH Tryz.prog l W) (hk : (l.filter fun x => x.1 == "internal/strconv.uint64pow10") = [("internal/strconv.uint64pow10", Lib.tabData .u64 Lib.pow10Tab)]) : Fm.Tab10 W := by
 have h2 := h.filter fun x => x.1 == "internal/strconv.uint64pow10"
 rw [hk] at h2
 have h3 : laidMet Tryz.prog [("internal/strconv.uint64pow10", Lib.tabData .u64 Lib.pow10Tab)] W := h2
 exact Lib.tabIs_of_head (rest := []) gTab gTabType Tryz.underlying170 Tryz.underlying76 cellsTabE cellsTab h3
def cellsIn1 : DataW Unit -> List Value
 | .lit (.int k z) => [.int k z]
 | _ => [undef]
def cellsIn : DataW Unit -> Array Value
 | .agg l => (l.flatMap cellsIn1).toArray
 | _ => #[]
noncomputable def laidWorldT (os : Os) : World :=
 { World.holding Tryz.prog os ⟨#[], #[], []⟩ with heap := ((((World.holding Tryz.prog os ⟨#[], #[], []⟩).heap.modify 1 (refill #[.iface 191 (.agg #[.pointer (some ⟨5, 33, none⟩)])])).modify 0 (refill (cellsIn Rows.laid_internal_strconv_uint64pow10))).modify 3 (refill (cellsIn Rows.laid_math_bits_deBruijn32tab))).modify 4 (refill (cellsIn Rows.laid_math_bits_deBruijn64tab)) }
end Go.Proofs.YtbklgjmkdhinpaaGreatDoor
