/- For every number of things and every list of steps: of the least sets of the last family none is a part of another one, and each set has one of them as a part; least once more is the same. No condition. -/
import Derived.Test.YtbklgjmkdhinpaaRows
import Derived.Test.YtbklgjmkdhinpaaChecked
import Derived.Test.YtbklgjmkdhinpaaFmRMap
import Derived.Test.YtbklgjmkdhinpaaSrBase
import Derived.Test.YtbklgjmkdhinpaaFmOps
import Derived.Test.YtbklgjmkdhinpaaFmListG
import Derived.Test.YtbklgjmkdhinpaaFmSameL
import Derived.ProofKit
import Derived.SizedLaws
import Derived.OpenShut
set_option maxHeartbeats 4000000
set_option maxRecDepth 100000
namespace Go.Proofs.Ytbklgjmkdhinpaa.Fm
open Go.ChangeShapes Go.WideShapes Go.ChangeAt Go.RowKit Go.Maps Go.Proofs.Ytbklgjmkdhinpaa.Bd
theorem last_at {vars : Nat} {ns : List Nd} {al : List Int} {T : List Fam} (h : Sems vars ns al T) (hne : 0 < al.length) : hasB ns (al.getD (al.length - 1) 0) = true := by
 have hl : al.length - 1 < al.length := by omega
 have e : al.getD (al.length - 1) 0 = al[al.length - 1] := by simp [List.getD_eq_getElem?_getD, List.getElem?_eq_getElem hl]
 rw [e]
 exact h.has _ (List.getElem_mem hl)
theorem leasts_walk (vars : Nat) (hv6 : vars <= 6) (xs : List Quad) (va : Value) (w : World) (hx : ArgQuads w va xs) (hxl : xs.length <= 20) :
  Calls Try.prog 6 #[.int .i64 (vars : Int), va] w fun e w' => e = .returned (.bool true) /\ Below w.heap.size w w' := by
 have HSP := Lib.hid (store_yes vars hv6 xs va w hx hxl)
 unfold StoreOut at HSP
 obtain ⟨a0, c0, rfl, -⟩ := hx
 have i3 : (vars : Int) <= 6 := by omega
 go_enter Try.func6, Try.ntmps6
 go_wp2_with fail
 refine HSP.out.mono ?_
 rintro e w1 ⟨s, b, O, ns, al, a, c, rfl, hF, hsem, hrow, hap, hO, hb1, hcnt⟩
 have hal : al.length = 2 + xs.length := by
  have := hsem.len
  rw [famT_len] at this
  simpa using this
 have h2 : 2 <= al.length := by omega
 have h27 : al.length <= 22 := by omega
 have hlen := hF.len
 obtain ⟨ga, rfl, hIA, -⟩ := ints_of_row hrow (by omega) (fun x hx => has_i64 (hsem.has x hx) (by omega))
 have hf := last_at hsem (by omega)
 have HT := Lib.hid (ksets_any w1)
 have hw1 := hb1.size
 have SP : Hid (∀ W, Below w1.heap.size w1 W -> FamAt w.heap.size W s b O vars 4000 ns) := fun W hW => hF.new hW
 have CL : Hid (∀ W, Below w1.heap.size w1 W -> W.cell? ⟨ga, al.length - 1, none⟩ = some (.int .i64 (al.getD (al.length - 1) 0))) := fun W hW => by
  have hl : al.length - 1 < al.length := by omega
  have e : al.getD (al.length - 1) 0 = al[al.length - 1] := by simp [List.getD_eq_getElem?_getD, List.getElem?_eq_getElem hl]
  rw [e]
  exact (hW.cell (p := ⟨ga, al.length - 1, none⟩) hIA.lt).trans (hIA.cells _ hl)
 have HO := Lib.hid hO
 have HB1 := Lib.hid hb1
 have HG := Lib.hid hF.good
 clear HSP hF hsem hrow hap hO hb1 hIA hal
 generalize al.getD (al.length - 1) 0 = fh at *
 go_wp2_with fail
 refine HT.out.mono ?_
 rintro e w2 ⟨rfl, hb2⟩
 have hF2 := SP.out w2 hb2
 have cl := CL.out w2 hb2
 have HB2 := Lib.hid (HB1.out.trans (hb2.mono hw1))
 have il : (al.length : Int) - 1 = ((al.length - 1 : Nat) : Int) := by omega
 have il2 : ((al.length - 1 : Nat) : Int) < (al.length : Int) := by omega
 have hcl := cost_rr hv6 .least
 have p6 : 2 ^ vars <= 64 := Nat.pow_le_pow_right (n := 2) (by omega) hv6
 have H1 := Lib.hid (least_any hF2 hf (by omega))
 have HF0 := Lib.hid hf
 clear HT SP CL hb2 HB1 hF2 hf
 go_wp2_with fail
 refine H1.out.mono ?_
 rintro e w3 ⟨x1, ns1, O1, rfl, hF1, mv1, e1, h1, m1, k1⟩
 have H2 := Lib.hid (least_any hF1 h1 (by omega))
 have G1 := Lib.hid hF1.good
 have E1 := Lib.hid e1
 have M1 := Lib.hid m1
 have V1 := Lib.hid mv1
 have X1 := Lib.hid h1
 clear H1 hF1 mv1 e1 h1 m1
 go_wp2_with fail
 refine H2.out.mono ?_
 rintro e w4 ⟨x2, ns2, O2, rfl, hF2, mv2, e2, h2', m2, k2⟩
 have hf2 := e2.has _ (E1.out.has _ HF0.out)
 have hx2 := e2.has _ X1.out
 have HMF : Hid (∀ y, In ns2 fh y ↔ In ns fh y) := fun y => (in_ext G1.out.ranked e2 (E1.out.has _ HF0.out) y).trans (in_ext HG.out.ranked E1.out HF0.out y)
 have HMX : Hid (∀ y, In ns2 x1 y ↔ leastP (In ns fh) y) := fun y => (in_ext G1.out.ranked e2 X1.out y).trans (M1.out y)
 have hsame : x2 = x1 := by
  refine same_handle hF2.good h2' hx2 (fun y => ?_)
  rw [m2, HMX.out]
  have c1 : ∀ y, In ns1 x1 y ↔ leastP (In ns fh) y := M1.out
  show (In ns1 x1 y /\ ∀ z, In ns1 x1 z -> Sub z y -> z = y) ↔ _
  constructor
  ·exact fun h => (c1 y).1 h.1
  ·exact fun h => ⟨(c1 y).2 h, fun z hz hs => h.2 z ((c1 z).1 hz).1 hs⟩
 subst hsame
 have n1 : nsN ns2 fh <= 64 := by have := nsN_vars hF2.good hF2.v24 hf2; omega
 have n2 : nsN ns2 x2 <= 64 := by have := nsN_vars hF2.good hF2.v24 hx2; omega
 have L1 := Lib.hid (list_any w4 hF2 hv6 fh hf2 200 (by omega))
 have L2 : Hid (∀ W, Below w4.heap.size w4 W -> Calls Try.prog 12 #[.pointer (some ⟨s, 0, none⟩), .int .i64 x2, .int .i64 200] W (ListOut ns2 x2 W)) := fun W hW => list_any W (hF2.new hW) hv6 x2 hx2 200 (by omega)
 unfold ListOut at L1 L2
 have HIN : Hid (∀ W, Below w4.heap.size w4 W -> ∀ z : Nat, z < 2 ^ vars -> Calls Try.prog 29 #[.pointer (some ⟨s, 0, none⟩), .int .i64 fh, .int .u64 (z : Int)] W fun e w' => e = .returned (.tuple #[.bool (inB ns2 fh z), .nilIface]) /\ Below W.heap.size W w') := fun W hW z hz => in_any (hF2.new hW) fh hf2 z hz
 have HB4 : Hid (Below w.heap.size w w4) := HB2.out.trans ((V1.out.trans mv2).below HB2.out.size HO.out)
 have HLT : Hid (∀ z, In ns2 fh z -> z < 2 ^ vars) := fun z hz => by
  apply Classical.byContradiction
  intro hn
  obtain ⟨i, hi, hb⟩ := Nat.exists_ge_and_testBit_of_ge_two_pow (show 2 ^ vars <= z by omega)
  have := in_lt hF2.good hz hb
  omega
 clear H2 hF2 mv2 e2 h2' m2 hf2 hx2 n1 n2 HG G1 E1 M1 V1 X1 HO HB2 HF0
 go_wp2_with fail
 refine L1.out.mono ?_
 rintro e w5 ⟨A, a5, c5, rfl, hu5, hs5, hm5, -, hb5⟩
 have L2' := Lib.hid (L2.out w5 hb5)
 have HUA := Lib.hid hu5
 have HMA := Lib.hid hm5
 have HB45 := Lib.hid hb5
 have hA64 : A.length <= 64 := small_len hs5 (fun x hx => by have := HLT.out x ((HMA.out x).1 hx); omega)
 clear L1 L2 hu5 hs5 hm5 hb5
 go_wp2_with fail
 refine L2'.out.mono ?_
 rintro e w6 ⟨C, a6, c6, rfl, hu6, hs6, hm6, -, hb6⟩
 have HUC := Lib.hid hu6
 have HUA6 : Hid (∀ W, Below w6.heap.size w6 W -> UArg W (.slice a5 A.length c5) A) := fun W hW => HUA.out W (hb6.trans (hW.mono hb6.size))
 have HSC := Lib.hid hs6
 have HMC : Hid (∀ x, x ∈ C ↔ leastP (In ns2 fh) x) := fun x => (hm6 x).trans ((HMX.out x).trans (by
  have : In ns2 fh = In ns fh := funext fun y => propext (HMF.out y)
  rw [this]))
 have hC64 : C.length <= 64 := small_len hs6 (fun x hx => by have := HLT.out x ((HMC.out x).1 hx).1; omega)
 have HB6 : Hid (Below w.heap.size w w6) := HB4.out.trans ((HB45.out.trans (hb6.mono HB45.out.size)).mono HB4.out.size)
 have HB46 := Lib.hid (HB45.out.trans (hb6.mono HB45.out.size))
 have HSM : Hid (∀ x, x ∈ C -> x < 64) := fun x hx => by have := HLT.out x ((HMC.out x).1 hx).1; omega
 have HSMA : Hid (∀ x, x ∈ A -> x < 64) := fun x hx => by have := HLT.out x ((HMA.out x).1 hx); omega
 clear L2' HUA hu6 hs6 hm6 hb6 HMX HMF HB4 HB45
 obtain ⟨NA, hNA⟩ : ∃ NA, NA = A.length := ⟨_, rfl⟩
 obtain ⟨NC, hNC⟩ : ∃ NC, NC = C.length := ⟨_, rfl⟩
 rw [<- hNA] at hA64
 rw [<- hNC] at hC64
 rw [<- hNA, <- hNC]
 have HNA := Lib.hid hNA
 have HNC := Lib.hid hNC
 have exx : (x2 != x2) = false := by simp
 clear hNA hNC
 go_wp2_with fail
 go_loopw [17] (fun iV wr => ∃ i : Nat, iV = .int .i64 (i : Int) /\ i <= NA /\ Below w6.heap.size w6 wr) (fun iV _ => NA - (intOf iV).toNat)
 case atStart => exact ⟨0, rfl, Nat.zero_le _, Below.refl _ _⟩
 case round =>
  obtain ⟨wo, hwo⟩ : ∃ wo, wo = wr := ⟨_, rfl⟩
  subst hwo
  obtain ⟨i, rfl, hi, hbi⟩ := hrel
  have HBI := Lib.hid hbi
  clear hbi
  by_cases hlt : i < NA
  ·have i1 : (i : Int) < (NA : Int) := by omega
   obtain ⟨q, hq⟩ : ∃ q, q = A.getD i 0 := ⟨_, rfl⟩
   have hiA : i < A.length := by have := HNA.out; omega
   have hqA : q ∈ A := by rw [hq, List.getD_eq_getElem?_getD, List.getElem?_eq_getElem hiA]; exact List.getElem_mem hiA
   have HEX : Hid (∃ j, j < NC /\ Sub (C.getD j 0) q) := by
    obtain ⟨z, z1, z2, z3⟩ := least_of _ q ((HMA.out q).1 hqA)
    have hz : z ∈ C := (HMC.out z).2 ⟨z1, z2⟩
    obtain ⟨j, hj, e⟩ := List.getElem_of_mem hz
    exact ⟨j, by rw [HNC.out]; exact hj, by rw [List.getD_eq_getElem?_getD, List.getElem?_eq_getElem hj]; show Sub C[j] q; rw [e]; exact z3⟩
   have HQ := Lib.hid hq
   have hq64 := HSMA.out q hqA
   clear hqA hq
   go_wp2_with fail
   go_loopw [18, 19] (fun sV kV wr => ∃ (L : Bool) (k : Nat), sV = .bool L /\ kV = .int .i64 (k : Int) /\ k <= NC /\ (L = true ↔ ∃ j, j < k /\ Sub (C.getD j 0) q) /\ Below w6.heap.size w6 wr) (fun _ kV _ => NC - (intOf kV).toNat)
   case atStart => exact ⟨false, 0, rfl, rfl, Nat.zero_le _, ⟨fun h => absurd h (by decide), fun ⟨j, h, _⟩ => absurd h (Nat.not_lt_zero _)⟩, HBI.out⟩
   case round =>
    obtain ⟨L, k, rfl, rfl, hk, hL, hbk⟩ := hrel
    have HL := Lib.hid hL
    have HBK := Lib.hid hbk
    by_cases hltk : k < NC
    ·have i2 : (k : Int) < (NC : Int) := by omega
     have wk : IntKind.i64.wrap ((k : Int) + 1) = ((k + 1 : Nat) : Int) := by rw [IntKind.wrap_i64]; omega
     obtain ⟨u, hu⟩ : ∃ u, u = C.getD k 0 := ⟨_, rfl⟩
     have hkC : k < C.length := by have := HNC.out; omega
     have huC : u ∈ C := by rw [hu, List.getD_eq_getElem?_getD, List.getElem?_eq_getElem hkC]; exact List.getElem_mem hkC
     have hu64 := HSM.out u huC
     have HNEXT : Hid (∀ M : Bool, (M = true ↔ Sub u q) -> ∀ W, Below w6.heap.size w6 W -> ∃ (L' : Bool) (k' : Nat), Value.bool (L || M) = .bool L' /\ Value.int .i64 ((k : Int) + 1) = .int .i64 (k' : Int) /\ k' <= NC /\ (L' = true ↔ ∃ j, j < k' /\ Sub (C.getD j 0) q) /\ Below w6.heap.size w6 W) := fun M hM W hW => ⟨L || M, k + 1, rfl, by first | rfl | (congr 1; omega), by omega, by
      rw [Bool.or_eq_true, HL.out, hM, hu]
      constructor
      ·rintro (⟨j, h1, h2⟩ | h)
       ·exact ⟨j, by omega, h2⟩
       ·exact ⟨k, by omega, h⟩
      ·rintro ⟨j, h1, h2⟩
       by_cases e : j = k
       ·subst e; exact .inr h2
       ·exact .inl ⟨j, by omega, h2⟩, hW⟩
     clear hL HL
     cases L with
     | true =>
      have HN := Lib.hid (fun W hW => HNEXT.out (@decide (Sub u q) (Classical.propDecidable _)) (@decide_eq_true_iff _ (Classical.propDecidable _)) W hW)
      clear HNEXT hbk huC hu
      go_wp2_with fail
      go_quiet (fail)
      have HR := Lib.hid (HN.out _ (below_drewN HBK.out nq))
      go_wp2
      go_roundw
      case rel => first | exact HR.out | ((repeat apply Exists.intro); exact ⟨HR.out, rfl⟩)
      case measure => first | (simp [intOf]; done) | (simp [intOf]; omega)
     | false =>
      have HN := Lib.hid (fun W hW => HNEXT.out (subB u q) (subB_iff hu64 hq64) W hW)
      obtain ⟨ax, cx, ea, hca⟩ := HUA6.out _ hbk
      obtain ⟨ga, eA, hgA, hcA⟩ := hca i hiA
      obtain ⟨ay, cy, ec, hcc⟩ := HUC.out _ hbk
      obtain ⟨gc, eC, hgC, hcC⟩ := hcc k hkC
      cases ea
      cases ec
      subst eA eC
      rw [<- HQ.out] at hcA
      rw [<- hu] at hcC
      have hsB : (bits .andNot .u64 (u : Int) (q : Int) == 0) = subB u q := rfl
      generalize subB u q = M at *
      clear HNEXT hbk huC hu hca hcc
      go_wp2_with fail
      go_quiet (fail)
      have HR := Lib.hid (HN.out _ (below_drewN HBK.out nq))
      go_wp2
      go_roundw
      case rel => first | exact HR.out | ((repeat apply Exists.intro); exact ⟨HR.out, rfl⟩)
      case measure => first | (simp [intOf]; done) | (simp [intOf]; omega)
    ·obtain rfl : k = NC := by omega
     have hLt : L = true := HL.out.2 HEX.out
     subst hLt
     clear hL hbk HL
     go_wp2
     go_roundw
     case rel => first | exact ⟨i + 1, by first | rfl | go_num | (congr 1; omega), by omega, HBK.out⟩ | ((repeat apply Exists.intro); exact ⟨⟨i + 1, by first | rfl | go_num | (congr 1; omega), by omega, HBK.out⟩, rfl⟩)
     case measure => first | (simp [intOf]; done) | (simp [intOf]; omega)
  ·have i1 : ¬ (i : Int) < (NA : Int) := by omega
   obtain rfl : i = NA := by omega
   clear HUA6 HSMA HMA
   go_wp2_with fail
   go_loopw [20] (fun iV wr => ∃ i : Nat, iV = .int .i64 (i : Int) /\ i <= NC /\ Below w6.heap.size w6 wr) (fun iV _ => NC - (intOf iV).toNat)
   case atStart => exact ⟨0, rfl, Nat.zero_le _, HBI.out⟩
   case round =>
    obtain ⟨wp, hwp⟩ : ∃ wp, wp = wr := ⟨_, rfl⟩
    subst hwp
    obtain ⟨m, rfl, hm, hbm⟩ := hrel
    have HBM := Lib.hid hbm
    clear hbm
    by_cases hltm : m < NC
    ·have j1 : (m : Int) < (NC : Int) := by omega
     obtain ⟨q, hq⟩ : ∃ q, q = C.getD m 0 := ⟨_, rfl⟩
     have hmC : m < C.length := by have := HNC.out; omega
     have hqC : q ∈ C := by rw [hq, List.getD_eq_getElem?_getD, List.getElem?_eq_getElem hmC]; exact List.getElem_mem hmC
     have hq64 := HSM.out q hqC
     have HQ := Lib.hid hq
     have HQL := Lib.hid ((HMC.out q).1 hqC)
     clear hq hqC
     go_wp2_with fail
     go_loopw [21] (fun kV wr => ∃ k : Nat, kV = .int .i64 (k : Int) /\ k <= NC /\ Below w6.heap.size w6 wr) (fun kV _ => NC - (intOf kV).toNat)
     case atStart => exact ⟨0, rfl, Nat.zero_le _, HBM.out⟩
     case round =>
      obtain ⟨k, rfl, hk, hbk⟩ := hrel
      have HBK := Lib.hid hbk
      by_cases hltk : k < NC
      ·have i2 : (k : Int) < (NC : Int) := by omega
       have wk : IntKind.i64.wrap ((k : Int) + 1) = ((k + 1 : Nat) : Int) := by rw [IntKind.wrap_i64]; omega
       by_cases hmk : m = k
       ·have emk : (((m : Int)) != ((k : Int))) = false := by simp; omega
        clear hbk hmk
        go_wp2_with fail
        go_quiet (fail)
        go_wp2
        go_roundw
        case rel => first | exact ⟨k + 1, by first | rfl | go_num | (congr 1; omega), by omega, below_drewN HBK.out _⟩ | ((repeat apply Exists.intro); exact ⟨⟨k + 1, by first | rfl | go_num | (congr 1; omega), by omega, below_drewN HBK.out _⟩, rfl⟩)
        case measure => first | (simp [intOf]; done) | (simp [intOf]; omega)
       ·have emk : (((m : Int)) != ((k : Int))) = true := by simp; omega
        obtain ⟨u, hu⟩ : ∃ u, u = C.getD k 0 := ⟨_, rfl⟩
        have hkC : k < C.length := by have := HNC.out; omega
        have huC : u ∈ C := by rw [hu, List.getD_eq_getElem?_getD, List.getElem?_eq_getElem hkC]; exact List.getElem_mem hkC
        have hu64 := HSM.out u huC
        have hsf : subB q u = false := by
         cases e : subB q u with
         | false => rfl
         | true =>
          have hsub := (subB_iff hq64 hu64).1 e
          have hqu := ((HMC.out u).1 huC).2 q HQL.out.1 hsub
          have hne : C[m] ≠ C[k] := by
           have hp := List.pairwise_iff_getElem.1 HSC.out
           rcases Nat.lt_or_gt_of_ne hmk with h | h
           ·have := hp m k hmC hkC h; omega
           ·have := hp k m hkC hmC h; omega
          have e1 : q = C[m] := by rw [HQ.out, List.getD_eq_getElem?_getD, List.getElem?_eq_getElem hmC]; rfl
          have e2 : u = C[k] := by rw [hu, List.getD_eq_getElem?_getD, List.getElem?_eq_getElem hkC]; rfl
          exact absurd (e1.symm.trans (hqu.trans e2)) hne
        have hsB : (bits .andNot .u64 (q : Int) (u : Int) == 0) = false := hsf
        obtain ⟨ay, cy, ec, hcc⟩ := HUC.out _ hbk
        obtain ⟨gc, eC, hgC, hcC⟩ := hcc k hkC
        obtain ⟨gd, eD, hgD, hcD⟩ := hcc m hmC
        cases ec
        have egd : gd = gc := by
         have := eD.symm.trans eC
         injection this with h; injection h
        subst egd
        subst eC
        rw [<- HQ.out] at hcD
        rw [<- hu] at hcC
        have j2 : (m : Int) < (NC : Int) := by omega
        clear hbk huC hu hcc hmk hsf
        go_wp2_with fail
        go_quiet (fail)
        go_wp2
        go_roundw
        case rel => first | exact ⟨k + 1, by first | rfl | go_num | (congr 1; omega), by omega, below_drewN HBK.out _⟩ | ((repeat apply Exists.intro); exact ⟨⟨k + 1, by first | rfl | go_num | (congr 1; omega), by omega, below_drewN HBK.out _⟩, rfl⟩)
        case measure => first | (simp [intOf]; done) | (simp [intOf]; omega)
      ·have i2 : ¬ (k : Int) < (NC : Int) := by omega
       obtain ⟨ay, cy, ec, hcc⟩ := HUC.out _ hbk
       obtain ⟨gd, eD, hgD, hcD⟩ := hcc m hmC
       cases ec
       subst eD
       rw [<- HQ.out] at hcD
       have HIN2 := Lib.hid (HIN.out wr (HB46.out.trans (hbk.mono HB46.out.size)) q (HLT.out q HQL.out.1))
       have hin : inB ns2 fh q = true := HQL.out.1
       rw [hin] at HIN2
       have hws := hbk.size
       clear hbk hcc hin
       go_wp2_with fail
       refine HIN2.out.mono ?_
       rintro e w8 ⟨rfl, hb8⟩
       have HB8 := Lib.hid (HBK.out.trans (hb8.mono hws))
       clear hb8 HIN2
       go_wp2
       go_roundw
       case rel => first | exact ⟨m + 1, by first | rfl | go_num | (congr 1; omega), by omega, HB8.out⟩ | ((repeat apply Exists.intro); exact ⟨⟨m + 1, by first | rfl | go_num | (congr 1; omega), by omega, HB8.out⟩, rfl⟩)
       case measure => first | (simp [intOf]; done) | (simp [intOf]; omega)
    ·have j1 : ¬ (m : Int) < (NC : Int) := by omega
     have HBF := Lib.hid (HB6.out.trans (HBM.out.mono HB6.out.size))
     go_wp2
     go_ret
     exact ⟨rfl, HBF.out⟩
end Go.Proofs.Ytbklgjmkdhinpaa.Fm
