/- The reference's Size. -/
import Derived.Test.YtcjjekhecjmaeaaGreatDoorTlKey
import Derived.Test.YtcjjekhecjmaeaaGreatDoorImRefW
set_option maxHeartbeats 8000000
set_option maxRecDepth 100000
namespace Go.Proofs.YtcjjekhecjmaeaaGreatDoor
open Go.RowKit Go.Maps
theorem rsize_any {vars : Nat} {ns : List Nd} (hg : Good vars ns) (h6 : vars <= 6) (h : Int) (hh : hasB ns h = true) (w : World) (g : Nat) (hB : BoolsAt w g (tabH vars ns h)) :
  Calls Tryz.prog 17 #[.slice (some ⟨g, 0, none⟩) (2 ^ vars) (2 ^ vars), .int .i64 (vars : Int)] w fun e w' => e = .returned (.int .i64 (sizeN ns h vars : Nat)) /\ Below w.heap.size w w' := by
 have p6 := pow_le6 h6
 obtain ⟨n, hn⟩ : ∃ n, n = 2 ^ vars := ⟨_, rfl⟩
 have HN := Lib.hid hn
 rw [<- hn] at p6 ⊢
 have HG := Lib.hid hg
 have HH := Lib.hid hh
 have hmm := @run_makeMap Tryz.prog
 have HMK : ∀ W, (Instr.makeSlice 43 (.int .i64 (n : Int)) (.int .i64 (n : Int))).run Tryz.prog W = .ok (.slice (some ⟨W.heap.size, 0, none⟩) n n) (W.alloc (.cells (madeCells #[.bool false] n) 4)) := fun W => make_tab n p6 W
 have HST := Lib.hid (fun (W : World) gl gh hg => Two2.start W n p6 gl gh hg)
 have HT0 : Hid (TabsAt 0 (w.alloc (.cells #[.slice (some ⟨g, 0, none⟩) n n] 43)) (.slice (some ⟨w.heap.size, 0, none⟩) 1 1) n [g] [tabH vars ns h]) := by
  have hb1 := hB.new (below_new w (.cells #[.slice (some ⟨g, 0, none⟩) n n] 43))
  refine ⟨?_, rfl, fun t ht => ?_, fun _ _ => Nat.zero_le _, fun k hk e => ?_, fun j h1 h2 => ?_⟩
  ·exact World.ownsRow_lit (base := 0) (size := 1) w #[.slice (some ⟨g, 0, none⟩) n n] 1 (Nat.zero_le _) (by unfold maxLen; omega) rfl
  ·rw [List.mem_singleton] at ht; subst ht; rw [tabH_len, hn]
  ·rw [List.mem_singleton] at hk; subst hk
   have := hB.lt
   have e2 : some w.heap.size = some k := e
   injection e2 with e2
   omega
  ·obtain rfl : j = 0 := by simp at h1; omega
   exact hb1
 clear hg hh hB hn
 go_enter Tryz.func17, Tryz.ntmps17
 go_wp2_with fail
 go_loopw [5, 6, 23] (fun nV fV vV wr => ∃ (v : Nat) (gs : List Nat), v <= vars /\ vV = .int .i64 (v : Int) /\ nV = .int .i64 (sizeN ns h v : Nat) /\ TabsAt 0 wr fV n gs ((levF ns h v).map (tabH vars ns)) /\ Below w.heap.size w wr) (fun _ _ vV _ => vars - (intOf vV).toNat)
 case atStart => exact ⟨0, [g], Nat.zero_le _, rfl, rfl, HT0.out, below_new _ _⟩
 case round =>
  obtain ⟨w3, hw3⟩ : ∃ w3, w3 = wr := ⟨_, rfl⟩
  subst hw3
  obtain ⟨v, gs0, hv, rfl, rfl, htab, hb3⟩ := hrel
  have HB3 := Lib.hid hb3
  by_cases hlt : v < vars
  ·have i1 : (v : Int) < (vars : Int) := by omega
   have hll := lev_len ns h v
   have hpv : 2 ^ v <= 2 ^ vars := Nat.pow_le_pow_right (by omega) hv
   rw [<- HN.out] at hpv
   have HLB : Hid (∀ x ∈ levF ns h v, hasB ns x = true /\ (v : Int) <= topOf ns x) := lev_ok HG.out.ranked HH.out v (by omega)
   have HNX : Hid (sizeN ns h (v + 1) = sizeN ns h v + topsN ns v (levF ns h v)) := (rfl : _ = _)
   have HLV : Hid (levF ns h (v + 1) = (sidesF ns v (levF ns h v)).foldl addN []) := (rfl : _ = _)
   obtain ⟨L, hL⟩ : ∃ L, L = levF ns h v := ⟨_, rfl⟩
   obtain ⟨s0, hs0⟩ : ∃ s, s = sizeN ns h v := ⟨_, rfl⟩
   rw [<- hL] at htab HLB HNX HLV hll
   have hs1 : s0 <= 64 * v := by rw [hs0]; exact sizeN_le ns h v (by omega)
   rw [<- hs0] at HNX ⊢
   have hgl : gs0.length = L.length := by have := htab.len; rwa [List.length_map] at this
   obtain ⟨fa, fc, hfv, -⟩ := row1_form htab.row
   rw [hgl] at hfv
   subst hfv
   have HGL := Lib.hid hgl
   have HTAB := Lib.hid htab
   have hL64 : L.length <= 64 := by omega
   have hz3 := hb3.size
   clear hgl htab hb3 hll hpv hL hs0
   have HM0 : Hid (∀ W, Below w3.heap.size w3 W -> Mid W.heap.size n vars ns w3 (W.alloc (.map #[] 0)) [] [] (.slice none 0 0)) := fun W hW =>
    ⟨⟨World.ownsRow_nil _ _ _ _, rfl, (fun t ht => by simp at ht), (fun k hk => by simp at hk), (fun k hk => by simp at hk), (fun j h1 h2 => by simp at h1)⟩, StrSet.made W, hW.alloc hW.size _, (fun x hx => by simp at hx), hW.size⟩
   have HBR := Lib.hid (Below.refl w3.heap.size w3)
   go_wp2_with fail
   go_loopw [5, 8, 29] (fun nV xV jV wr => ∃ (j : Nat) (A : List Int) (gs : List Nat), j <= L.length /\ jV = .int .i64 (j : Int) /\ nV = .int .i64 ((s0 + topsN ns v (L.take j) : Nat) : Int) /\ A = (sidesF ns v (L.take j)).foldl addN [] /\ Mid w3.heap.size n vars ns w3 wr A gs xV) (fun _ _ jV _ => L.length - (intOf jV).toNat)
   case atStart => exact ⟨0, [], [], Nat.zero_le _, rfl, rfl, rfl, HM0.out w3 HBR.out⟩
   case round =>
    obtain ⟨w4, hw4⟩ : ∃ w4, w4 = wr := ⟨_, rfl⟩
    subst hw4
    obtain ⟨j, A, gs, hj, rfl, hnV, hA, hM⟩ := hrel
    obtain ⟨m, hm⟩ : ∃ m, m = topsN ns v (L.take j) := ⟨_, rfl⟩
    rw [<- hm] at hnV
    subst hnV
    have hm64 : m <= 64 := by
     have h1 := topsN_le ns v (L.take j)
     rw [List.length_take] at h1
     omega
    have HMM := Lib.hid hm
    clear hm
    clear HM0 HBR
    have HM := Lib.hid hM
    have hAL : A.length <= 128 := by
     have := fold_len (sidesF ns v (L.take j)) []
     rw [sidesF_len, List.length_take] at this
     rw [hA]; simp at this; omega
    have HA := Lib.hid hA
    have hgl := hM.gl
    obtain ⟨xa, xc, hxv, -⟩ := row1_form hM.tabs.row
    rw [hgl] at hxv
    subst hxv
    have HGL2 := Lib.hid hgl
    clear hM hA hgl
    by_cases hjl : j < L.length
    ·have HSN : Hid (L.take (j + 1) = L.take j ++ [L[j]]) := List.take_succ_eq_append_getElem hjl
     have HTN : Hid (topsN ns v (L.take (j + 1)) = m + (if topOf ns L[j] = (v : Int) then 1 else 0)) := by
      show _ = _
      rw [HSN.out, topsN_snoc, <- HMM.out]
     have HAN : Hid ((sidesF ns v (L.take (j + 1))).foldl addN [] = addN (addN A (loS ns L[j] v)) (hiS ns L[j] v)) := by
      show _ = _
      rw [HSN.out, sidesF_snoc, List.foldl_append, <- HA.out]; rfl
     obtain ⟨hbx, htx⟩ := HLB.out L[j] (List.getElem_mem hjl)
     have hj1 : j < gs0.length := by rw [HGL.out]; exact hjl
     have bj0 := HTAB.out.tabs j hj1 (by rw [List.length_map]; exact hjl)
     rw [List.getElem_map] at bj0
     obtain ⟨g0, c0, e0, hg0, cells0, -⟩ := HTAB.out.form (by omega)
     injection e0 with e1 e2 e3
     subst e1
     subst e3
     clear e2
     have hb4 := HM.out.below
     have ck := (hb4.cell (p := ⟨g0, j, none⟩) hg0).trans (cells0 j hj1)
     have bj : Hid (BoolsAt w4 gs0[j] (tabH vars ns L[j])) := bj0.new hb4
     obtain ⟨x, hx⟩ : ∃ x, x = L[j] := ⟨_, rfl⟩
     obtain ⟨gx, hgx⟩ : ∃ x, x = gs0[j] := ⟨_, rfl⟩
     rw [<- hx] at HTN HAN hbx htx bj
     rw [<- hgx] at ck bj
     have HBX := Lib.hid hbx
     have HTX := Lib.hid htx
     have i2 : (j : Int) < (L.length : Int) := by omega
     clear bj0 cells0 hb4 hx hgx HSN hj1 hbx htx hg0
     go_upto_region 11 with fail
     go_cut [12, 13] (fun lv hv2 wx => ∃ gl gh, lv = .slice (some ⟨gl, 0, none⟩) n n /\ hv2 = .slice (some ⟨gh, 0, none⟩) n n /\ Two2 w4 wx n gl gh 0 (tabH vars ns (loS ns x v)) (tabH vars ns (hiS ns x v)))
     case first =>
      clear HTAB HLB HNX HLV HM HA HTN HAN bj HBX HTX HB3 HT0 HG HH
      go_region_held3 (fun _ => True) (trivial) (fail)
      all_goals
       go_wp2_with fail
       go_meet
       case rel => exact ⟨_, _, rfl, rfl, Two2.undrew (HST.out w4.drew _ _ (by first | exact .inl ⟨rfl, rfl⟩ | exact .inr ⟨rfl, rfl⟩ | exact .inl ⟨rfl, by simp⟩ | exact .inr ⟨by simp, rfl⟩) _ _)⟩
     case rest =>
     obtain ⟨gl, gh, rfl, rfl, h2⟩ := hcut
     have HLo : Hid (∀ i, i < n -> (tabH vars ns x).getD (offN i v) false = (tabH vars ns (loS ns x v)).getD i false) := fun i hi => tab_lo HG.out h6 hlt HBX.out HTX.out (by rw [<- HN.out]; exact hi)
     have HHi : Hid (∀ i, i < n -> (tabH vars ns x).getD (i ||| 1 <<< v) false = (tabH vars ns (hiS ns x v)).getD i false) := fun i hi => tab_hi HG.out h6 hlt HBX.out HTX.out (by rw [<- HN.out]; exact hi) (on_num (by rw [<- HN.out]; exact hi) hlt h6).2
     have HSE := Lib.hid (sides_eq (vars := vars) HG.out (h := x) (v := v) (by omega) HBX.out)
     have hll : (tabH vars ns (loS ns x v)).length = n := by rw [tabH_len, HN.out]
     have hlh : (tabH vars ns (hiS ns x v)).length = n := by rw [tabH_len, HN.out]
     have HLL := Lib.hid hll
     have HLH := Lib.hid hlh
     have H2 := Lib.hid h2
     have HBW : Hid (∀ X, Below w4.heap.size w4 X -> BoolsAt X gx (tabH vars ns x)) := fun X hX => bj.out.new hX
     clear h2 hll hlh
     go_upto_block 4 with fail
     go_cut [] (fun wx => Two2 w4 wx n gl gh n (tabH vars ns (loS ns x v)) (tabH vars ns (hiS ns x v)))
     case first =>
      clear HTAB HLB HNX HLV HM HA HTN HAN HBX HTX HB3 HT0 HG HH HGL HGL2 HSE HMM
      generalize tabH vars ns (loS ns x v) = Ll at *
      generalize tabH vars ns (hiS ns x v) = Lh at *
      go_wp2_with fail
      go_loopw [41] (fun iV wr => ∃ i : Nat, i <= n /\ iV = .int .i64 (i : Int) /\ Two2 w4 wr n gl gh i Ll Lh) (fun iV _ => n - (intOf iV).toNat)
      case atStart => exact ⟨0, Nat.zero_le _, rfl, H2.out⟩
      case round =>
       obtain ⟨w8, hwp⟩ : ∃ w8, w8 = wr := ⟨_, rfl⟩
       subst hwp
       obtain ⟨i, hi, rfl, h3⟩ := hrel
       clear H2
       by_cases hin : i < n
       ·have j1 : (i : Int) < (n : Int) := by omega
        have hiv : i < 2 ^ vars := by rw [<- HN.out]; exact hin
        obtain ⟨of1, of2⟩ := off_num hiv hlt h6
        obtain ⟨on1, on2⟩ := on_num hiv hlt h6
        have hlo := HLo.out i hin
        have hhi := HHi.out i hin
        have hBX := HBW.out w8 h3.below
        have htl : (tabH vars ns x).length = 2 ^ vars := tabH_len x
        have q1 := hBX.cells (offN i v) (by rw [htl]; exact of2)
        have q2 := hBX.cells (i ||| 1 <<< v) (by rw [htl]; exact on2)
        have e1 : (tabH vars ns x)[offN i v]'(by rw [htl]; exact of2) = Ll.getD i false := by rw [<- hlo, List.getD_eq_getElem?_getD, List.getElem?_eq_getElem (by rw [htl]; exact of2)]; rfl
        have e2 : (tabH vars ns x)[i ||| 1 <<< v]'(by rw [htl]; exact on2) = Lh.getD i false := by rw [<- hhi, List.getD_eq_getElem?_getD, List.getElem?_eq_getElem (by rw [htl]; exact on2)]; rfl
        rw [e1] at q1
        rw [e2] at q2
        have cl : ∃ b, w8.cell? ⟨gl, i, none⟩ = some (.bool b) := by
         have := h3.rl.cellAt i (by omega)
         rw [mcells_at _ _ (by rw [partT_len HLL.out (by omega)]; exact hin)] at this
         exact ⟨_, this⟩
        have chh : ∃ b, w8.cell? ⟨gh, i, none⟩ = some (.bool b) := by
         have := h3.rh.cellAt i (by omega)
         rw [mcells_at _ _ (by rw [partT_len HLH.out (by omega)]; exact hin)] at this
         exact ⟨_, this⟩
        obtain ⟨bl0, cl⟩ := cl
        obtain ⟨bh0, ch⟩ := chh
        have fl := h3.rl.frozenAt i
        have fh := h3.rh.frozenAt i
        have of3 : offN i v < n := by rw [HN.out]; exact of2
        have on3 : i ||| 1 <<< v < n := by rw [HN.out]; exact on2
        generalize offN i v = oi at *
        generalize i ||| 1 <<< v = ni at *
        have o1 : (oi : Int) < (n : Int) := by omega
        have o2 : (ni : Int) < (n : Int) := by omega
        generalize hp : Ll.getD i false = p at *
        generalize hq : Lh.getD i false = q at *
        have HSTEP : Hid (∀ X, Below w8.heap.size w8 X -> Two2 w4 ((X.setCell ⟨gl, i, none⟩ (.bool p)).setCell ⟨gh, i, none⟩ (.bool q)) n gl gh (i + 1) Ll Lh) := fun X hX => h3.step hX HLL.out HLH.out hin p q hp hq
        have nlh : gl ≠ gh := h3.ne
        have ngl : gx ≠ gl := fun e => by have h1 := h3.gel.1; have h2 := bj.out.lt; omega
        have ngh : gx ≠ gh := fun e => by have h1 := h3.gel.2; have h2 := bj.out.lt; omega
        have XL : ∀ b, (w8.drew.setCell ⟨gl, i, none⟩ (.bool b)).cell? ⟨gh, i, none⟩ = some (.bool bh0) /\ (w8.drew.setCell ⟨gl, i, none⟩ (.bool b)).frozen? ⟨gh, i, none⟩ = false /\ (w8.drew.setCell ⟨gl, i, none⟩ (.bool b)).cell? ⟨gx, oi, none⟩ = some (.bool p) /\ (w8.drew.setCell ⟨gl, i, none⟩ (.bool b)).cell? ⟨gx, ni, none⟩ = some (.bool q) := fun b => by
         have hk : Kept (fun j => j = gl) w8 (w8.drew.setCell ⟨gl, i, none⟩ (.bool b)) := (Kept.of_below (Below.refl _ _).drew _).trans (Kept.setCell _ _ _ rfl)
         have lh := (h3.rh.lt gh rfl).2
         have lg := hBX.lt
         exact ⟨(hk.cell (a := ⟨gh, i, none⟩) lh (fun e => nlh e.symm)).trans ch, (hk.frozen (a := ⟨gh, i, none⟩) lh (fun e => nlh e.symm)).trans fh, (hk.cell (a := ⟨gx, oi, none⟩) lg ngl).trans q1, (hk.cell (a := ⟨gx, ni, none⟩) lg ngl).trans q2⟩
        have XH : ∀ b, (w8.drew.setCell ⟨gh, i, none⟩ (.bool b)).cell? ⟨gl, i, none⟩ = some (.bool bl0) /\ (w8.drew.setCell ⟨gh, i, none⟩ (.bool b)).frozen? ⟨gl, i, none⟩ = false /\ (w8.drew.setCell ⟨gh, i, none⟩ (.bool b)).cell? ⟨gx, oi, none⟩ = some (.bool p) /\ (w8.drew.setCell ⟨gh, i, none⟩ (.bool b)).cell? ⟨gx, ni, none⟩ = some (.bool q) := fun b => by
         have hk : Kept (fun j => j = gh) w8 (w8.drew.setCell ⟨gh, i, none⟩ (.bool b)) := (Kept.of_below (Below.refl _ _).drew _).trans (Kept.setCell _ _ _ rfl)
         have ll := (h3.rl.lt gl rfl).2
         have lg := hBX.lt
         exact ⟨(hk.cell (a := ⟨gl, i, none⟩) ll nlh).trans cl, (hk.frozen (a := ⟨gl, i, none⟩) ll nlh).trans fl, (hk.cell (a := ⟨gx, oi, none⟩) lg ngh).trans q1, (hk.cell (a := ⟨gx, ni, none⟩) lg ngh).trans q2⟩
        have cl' : w8.drew.cell? ⟨gl, i, none⟩ = some (.bool bl0) := cl
        have ch' : w8.drew.cell? ⟨gh, i, none⟩ = some (.bool bh0) := ch
        have fl' : w8.drew.frozen? ⟨gl, i, none⟩ = false := fl
        have fh' : w8.drew.frozen? ⟨gh, i, none⟩ = false := fh
        have hu64 : (2 : Nat) ^ v <= 64 := Nat.pow_le_pow_right (n := 2) (by omega) (by omega : v <= 6)
        have hwp : IntKind.i64.wrap ((2 : Int) ^ v) = (2 : Int) ^ v := by
         have e : ((2 : Int) ^ v) = ((2 ^ v : Nat) : Int) := by simp
         rw [e]; generalize 2 ^ v = z at *; rw [IntWalk.i64_left]; unfold wrap64; omega
        have hw2 : wrap64 ((2 : Int) ^ v) = (2 : Int) ^ v := by
         have e : ((2 : Int) ^ v) = ((2 ^ v : Nat) : Int) := by simp
         rw [e]; generalize 2 ^ v = z at *; unfold wrap64; omega
        have SB : w8.drew.cell? ⟨gx, oi, none⟩ = some (.bool p) /\ w8.drew.cell? ⟨gx, ni, none⟩ = some (.bool q) := ⟨q1, q2⟩
        obtain ⟨xl1, xl2, xl3, xl4⟩ := XL p
        obtain ⟨xh1, xh2, xh3, xh4⟩ := XH q
        have yl1 : (w8.setCell ⟨gl, i, none⟩ (.bool p)).drew.cell? ⟨gh, i, none⟩ = some (.bool bh0) := xl1
        have yl2 : (w8.setCell ⟨gl, i, none⟩ (.bool p)).drew.frozen? ⟨gh, i, none⟩ = false := xl2
        have yh1 : (w8.setCell ⟨gh, i, none⟩ (.bool q)).drew.cell? ⟨gl, i, none⟩ = some (.bool bl0) := xh1
        have yh2 : (w8.setCell ⟨gh, i, none⟩ (.bool q)).drew.frozen? ⟨gl, i, none⟩ = false := xh2
        have YL3 : Hid ((w8.setCell ⟨gl, i, none⟩ (.bool p)).drew.cell? ⟨gx, oi, none⟩ = some (.bool p) /\ (w8.setCell ⟨gl, i, none⟩ (.bool p)).drew.cell? ⟨gx, ni, none⟩ = some (.bool q)) := ⟨xl3, xl4⟩
        have YH3 : Hid ((w8.setCell ⟨gh, i, none⟩ (.bool q)).drew.cell? ⟨gx, oi, none⟩ = some (.bool p) /\ (w8.setCell ⟨gh, i, none⟩ (.bool q)).drew.cell? ⟨gx, ni, none⟩ = some (.bool q)) := ⟨xh3, xh4⟩
        have ZZ : Hid (((w8.setCell ⟨gl, i, none⟩ (.bool p)).setCell ⟨gh, i, none⟩ (.bool q)).drew.cell? ⟨gx, oi, none⟩ = some (.bool p) /\ ((w8.setCell ⟨gl, i, none⟩ (.bool p)).setCell ⟨gh, i, none⟩ (.bool q)).drew.cell? ⟨gx, ni, none⟩ = some (.bool q)) := by
         have hk : Kept (fun j => j = gl \/ j = gh) w8 ((w8.setCell ⟨gl, i, none⟩ (.bool p)).setCell ⟨gh, i, none⟩ (.bool q)).drew := ((Kept.setCell w8 ⟨gl, i, none⟩ (.bool p) (.inl rfl)).trans (Kept.setCell _ _ _ (.inr rfl))).trans (Kept.of_below (Below.refl _ _).drew _)
         have lg := hBX.lt
         have ng : ¬ (gx = gl \/ gx = gh) := fun e => e.elim ngl ngh
         exact ⟨(hk.cell (a := ⟨gx, oi, none⟩) lg ng).trans q1, (hk.cell (a := ⟨gx, ni, none⟩) lg ng).trans q2⟩
        have XL3 := Lib.hid (show _ /\ _ from ⟨xl3, xl4⟩)
        have XH3 := Lib.hid (show _ /\ _ from ⟨xh3, xh4⟩)
        clear hp hq h3 XL XH hBX hlo hhi e1 e2 HLo HHi HBW htl cl ch fl fh bj HN hiv xl3 xl4 xh3 xh4 hu64
        go_wp2_with fail
        go_region_held3 (fun X => X.cell? ⟨gx, oi, none⟩ = some (.bool p) /\ X.cell? ⟨gx, ni, none⟩ = some (.bool q)) (first | exact SB | exact XL3.out | exact XH3.out | exact YL3.out | exact YH3.out | exact ZZ.out) (fail)
        all_goals
         go_wp2_with fail
         go_roundw
         case rel => first | exact ⟨i + 1, by omega, by go_num, (HSTEP.out w8 (Below.refl _ _)).adrew⟩ | ((repeat apply Exists.intro); exact ⟨⟨i + 1, by omega, by go_num, (HSTEP.out w8 (Below.refl _ _)).adrew⟩, rfl⟩)
         case measure => simp [intOf]; omega
       ·obtain rfl : n = i := by omega
        go_wp2_with fail
        go_meet
        exact h3
     case rest =>
     obtain ⟨w5, hw5⟩ : ∃ w5, w5 = wc := ⟨_, rfl⟩
     subst hw5
     obtain ⟨bl, bh⟩ := hcut.done HLL.out HLH.out
     obtain ⟨gel1, gel2⟩ := hcut.gel
     have nlh := hcut.ne
     have hb5 := hcut.below
     have hSM := same_any (w := w5) (c1 := n) (c2 := n) bl bh HLL.out HLH.out (by omega)
     rw [show decide (tabH vars ns (loS ns x v) = tabH vars ns (hiS ns x v)) = decide (topOf ns x ≠ v) from decide_eq_decide.2 HSE.out] at hSM
     have HSM := Lib.hid hSM
     have HBL := Lib.hid bl
     have HBH := Lib.hid bh
     have HB5 := Lib.hid hb5
     have HGE : Hid (w4.heap.size <= gl /\ w4.heap.size <= gh /\ gl ≠ gh) := ⟨gel1, gel2, nlh⟩
     clear hcut H2 bl bh HLo HHi HBW HLL HLH hSM HSE bj hb5 gel1 gel2 nlh HST HMK
     obtain ⟨tp, htp⟩ : ∃ tp : Bool, tp = decide (topOf ns x ≠ v) := ⟨_, rfl⟩
     have HTP := Lib.hid htp
     rw [<- htp] at HSM
     clear htp
     go_wp2_with fail
     refine HSM.out.mono ?_
     rintro e w6 ⟨rfl, hb6⟩
     have HB6 := Lib.hid hb6
     clear HSM hb6
     go_upto_if 68 with fail
     go_cut [5] (fun nV wx => nV = .int .i64 ((s0 + topsN ns v (L.take (j + 1)) : Nat) : Int) /\ Below w6.heap.size w6 wx)
     case first =>
      have HM2 : Hid (topsN ns v (L.take (j + 1)) = m + (if tp = true then 0 else 1)) := by
       show _ = _
       rw [HTN.out, HTP.out]
       by_cases e : topOf ns x = (v : Int)
       ·rw [if_pos e, if_neg (by simp [e])]
       ·rw [if_neg e, if_pos (by simp [e])]
      clear HTN HTP HAN HM HA HTAB HLB HNX HLV HBL HBH HMM
      generalize topsN ns v (L.take (j + 1)) = m' at *
      cases tp
      ·go_wp2_with fail
       go_meet
       case rel =>
        have e : m' = m + 1 := HM2.out
        subst e
        exact ⟨by go_num, Below.refl _ _⟩
      ·go_wp2_with fail
       go_meet
       case rel =>
        have e : m' = m := HM2.out
        subst e
        exact ⟨by first | rfl | go_num, Below.refl _ _⟩
     case rest =>
     obtain ⟨w7, hw7⟩ : ∃ w7, w7 = wc := ⟨_, rfl⟩
     subst hw7
     obtain ⟨rfl, hb7⟩ := hcut
     have hb67 := HB6.out.trans (hb7.mono HB6.out.size)
     have hb47 := HB5.out.trans (hb67.mono HB5.out.size)
     obtain ⟨m', hm'⟩ : ∃ m', m' = topsN ns v (L.take (j + 1)) := ⟨_, rfl⟩
     have HMM2 := Lib.hid hm'
     rw [<- hm']
     have hmb : w3.heap.size < w4.heap.size := HM.out.seen.lt
     have hb78 := below_new w7 (.cells #[.slice (some ⟨gl, 0, none⟩) n n, .slice (some ⟨gh, 0, none⟩) n n] 43)
     have BL7 := HBL.out.new hb67
     have BH7 := HBH.out.new hb67
     have hlt7 : gl < w7.heap.size /\ gh < w7.heap.size := ⟨BL7.lt, BH7.lt⟩
     have hge := HGE.out
     have hs47 := hb47.size
     have HX : Hid (hasB ns (loS ns x v) = true /\ hasB ns (hiS ns x v) = true) := ⟨(loS_has HG.out.ranked (by omega) HBX.out).1, (hiS_has HG.out.ranked (by omega) HBX.out).1⟩
     have HM8 : Hid (Mid w3.heap.size n vars ns w3 (w7.alloc (.cells #[.slice (some ⟨gl, 0, none⟩) n n, .slice (some ⟨gh, 0, none⟩) n n] 43)) A gs (.slice xa A.length xc)) := (HM.out.new hb47).new hb78
     have HO8 : Hid (∀ q, q = gl \/ q = gh \/ q = w7.heap.size -> (Value.slice xa A.length xc).ownBlock ≠ some q) := fun q hq e => by
      have := (HM.out.own e).2
      omega
     have HBL8 := Lib.hid (BL7.new hb78)
     have HBH8 := Lib.hid (BH7.new hb78)
     have HC8 : Hid ((w7.alloc (.cells #[.slice (some ⟨gl, 0, none⟩) n n, .slice (some ⟨gh, 0, none⟩) n n] 43)).cell? ⟨w7.heap.size, 0, none⟩ = some (.slice (some ⟨gl, 0, none⟩) n n) /\ (w7.alloc (.cells #[.slice (some ⟨gl, 0, none⟩) n n, .slice (some ⟨gh, 0, none⟩) n n] 43)).cell? ⟨w7.heap.size, 1, none⟩ = some (.slice (some ⟨gh, 0, none⟩) n n)) := ⟨by simp, by simp⟩
     have HQ8 : Hid (∀ q, q = gl \/ q = gh \/ q = w7.heap.size -> q < (w7.alloc (.cells #[.slice (some ⟨gl, 0, none⟩) n n, .slice (some ⟨gh, 0, none⟩) n n] 43)).heap.size) := fun q hq => by
      rw [World.size_alloc]; omega
     have HLT : Hid (w3.heap.size < gl /\ w3.heap.size < gh /\ w3.heap.size < w7.heap.size) := ⟨by omega, by omega, by omega⟩
     have hm65 : m' <= 64 := by
      have h1 := topsN_le ns v (L.take (j + 1))
      rw [List.length_take] at h1
      omega
     clear hm' hb7 hb67 hb47 hmb hb78 BL7 BH7 hlt7 hge hs47 HBL HBH HB6 HB5 HGE HTN HTP HMM
     go_wp2_with fail
     generalize hW8 : w7.alloc (.cells #[.slice (some ⟨gl, 0, none⟩) n n, .slice (some ⟨gh, 0, none⟩) n n] 43) = w8 at *
     clear hW8
     go_loopw [8, 75] (fun xV kV wr => ∃ (k : Nat) (A2 : List Int) (gs2 : List Nat), k <= 2 /\ kV = .int .i64 (k : Int) /\ A2 = ([loS ns x v, hiS ns x v].take k).foldl addN A /\ Mid w3.heap.size n vars ns w3 wr A2 gs2 xV /\ ∀ q, q = gl \/ q = gh \/ q = w7.heap.size -> wr.heap[q]? = w8.heap[q]? /\ xV.ownBlock ≠ some q) (fun _ kV _ => 2 - (intOf kV).toNat)
     case atStart => exact ⟨0, A, gs, by omega, rfl, rfl, HM8.out, fun q hq => ⟨rfl, HO8.out q hq⟩⟩
     case round =>
      obtain ⟨w9, hw9⟩ : ∃ w9, w9 = wr := ⟨_, rfl⟩
      subst hw9
      obtain ⟨k, A2, gs2, hk, rfl, hA2, hM2, hq⟩ := hrel
      clear HM8 HO8
      have hg2 := hM2.gl
      obtain ⟨ya, yc, hyv, -⟩ := row1_form hM2.tabs.row
      rw [hg2] at hyv
      subst hyv
      have HM2 := Lib.hid hM2
      have HGY := Lib.hid hg2
      have HA2 := Lib.hid hA2
      have HQ := Lib.hid hq
      have hA2L : A2.length <= 130 := by
       have := fold_len ([loS ns x v, hiS ns x v].take k) A
       rw [hA2]
       simp at this
       omega
      clear hM2 hg2 hA2 hq
      by_cases hk2 : k < 2
      ·have i3 : (k : Int) < 2 := by omega
       obtain ⟨y, gy, hcell, hby, hyb, hgs, hgm, hfold⟩ : ∃ y gy, w9.cell? ⟨w7.heap.size, k, none⟩ = some (.slice (some ⟨gy, 0, none⟩) n n) /\ BoolsAt w9 gy (tabH vars ns y) /\ hasB ns y = true /\ (gy = gl \/ gy = gh) /\ w3.heap.size < gy /\ ([loS ns x v, hiS ns x v].take (k + 1)).foldl addN A = addN A2 y := by
        have hc0 : ∀ i, w9.cell? ⟨w7.heap.size, i, none⟩ = w8.cell? ⟨w7.heap.size, i, none⟩ := fun i => World.cell?_of_block (a := ⟨w7.heap.size, i, none⟩) (HQ.out _ (.inr (.inr rfl))).1
        have hk01 : k = 0 \/ k = 1 := by omega
        rcases hk01 with rfl | rfl
        ·exact ⟨loS ns x v, gl, (hc0 0).trans HC8.out.1, bools_heap HBL8.out (HQ.out gl (.inl rfl)).1, HX.out.1, .inl rfl, HLT.out.1, by rw [HA2.out]; rfl⟩
        ·exact ⟨hiS ns x v, gh, (hc0 1).trans HC8.out.2, bools_heap HBH8.out (HQ.out gh (.inr (.inl rfl))).1, HX.out.2, .inr rfl, HLT.out.2.1, by rw [HA2.out]; rfl⟩
       have HQ9 : Hid (∀ q, q = gl \/ q = gh \/ q = w7.heap.size -> q < w9.heap.size) := fun q hq =>
        (Array.getElem?_eq_some_iff.1 ((HQ.out q hq).1.trans (Array.getElem?_eq_getElem (HQ8.out q hq)))).1
       have HBY := Lib.hid hby
       have HYB := Lib.hid hyb
       have HGS := Lib.hid hgs
       have HFO := Lib.hid hfold
       have HTL : Hid ((tabH vars ns y).length = n) := by
        show _ = _
        rw [tabH_len, HN.out]
       have HKM : Hid (keyT (tabH vars ns y) ∈ A2.map (fun x => keyT (tabH vars ns x)) ↔ y ∈ A2) := keys_mem HG.out HM2.out.has hyb
       have HK64 : Hid (TextOk (keyT (tabH vars ns y))) := by
        show _ <= _
        rw [keyT_size, tabH_len, <- HN.out]; omega
       clear hby hyb hgs hfold
       go_wp2_with fail
       obtain ⟨T, hT⟩ : ∃ T, T = tabH vars ns y := ⟨_, rfl⟩
       have HTT := Lib.hid hT
       rw [<- hT] at HTL HK64 HKM HBY
       clear hT
       go_loopw [17, 81] (fun tV iV wr => ∃ i : Nat, i <= n /\ iV = .int .i64 (i : Int) /\ tV = .string (keyT (T.take i)) /\ Below w9.heap.size w9 wr) (fun _ iV _ => n - (intOf iV).toNat)
       case atStart => exact ⟨0, Nat.zero_le _, rfl, rfl, Below.refl _ _⟩
       case round =>
        obtain ⟨w10, hw10⟩ : ∃ w10, w10 = wr := ⟨_, rfl⟩
        subst hw10
        obtain ⟨i, hi, rfl, rfl, hb10⟩ := hrel
        by_cases hin : i < n
        ·have j1 : (i : Int) < (n : Int) := by omega
         have hiT : i < T.length := by rw [HTL.out]; exact hin
         have cb := (HBY.out.new hb10).cells i hiT
         have HKS : Hid (keyT (T.take (i + 1)) = keyT (T.take i) ++ ⟨#[if T[i] = true then 49 else 48]⟩) := by
          show _ = _
          rw [List.take_succ_eq_append_getElem hiT, keyT_snoc]
         have hks : (keyT (T.take i)).size <= 64 := by rw [keyT_size, List.length_take]; omega
         generalize T[i] = b at *
         generalize keyT (T.take i) = kx at *
         have HB10 := Lib.hid hb10
         clear hb10 hiT
         cases b
         ·go_wp2_with fail
          go_roundw
          case rel => exact ⟨i + 1, by omega, by go_num, by rw [HKS.out]; rfl, HB10.out⟩
          case measure => simp [intOf]; omega
         ·go_wp2_with fail
          go_roundw
          case rel => exact ⟨i + 1, by omega, by go_num, by rw [HKS.out]; rfl, HB10.out⟩
          case measure => simp [intOf]; omega
        ·obtain rfl : n = i := by omega
         have hTk : T.take n = T := List.take_of_length_le (by rw [HTL.out]; exact Nat.le_refl _)
         rw [hTk]
         have hM10 := HM2.out.new hb10
         have HM10 := Lib.hid hM10
         have hlk := hM10.seen.look HK64.out
         have HB10 := Lib.hid hb10
         have HQ10 : Hid (∀ q, q = gl \/ q = gh \/ q = w7.heap.size -> w10.heap[q]? = w8.heap[q]? /\ (Value.slice ya A2.length yc).ownBlock ≠ some q) := fun q hq =>
          ⟨(hb10.block q (HQ9.out q hq)).trans (HQ.out q hq).1, (HQ.out q hq).2⟩
         clear hM10 hb10 hTk
         by_cases hmem : y ∈ A2
         ·rw [decide_eq_true (HKM.out.2 hmem)] at hlk
          have HAD : Hid (([loS ns x v, hiS ns x v].take (k + 1)).foldl addN A = A2) := by
           show _ = _
           rw [HFO.out]; unfold addN; rw [if_pos hmem]
          generalize keyT T = kT at *
          go_wp2_with fail
          go_roundw
          case rel => exact ⟨k + 1, A2, gs2, by omega, by go_num, HAD.out.symm, HM10.out, HQ10.out⟩
          case measure => simp [intOf]; omega
         ·rw [decide_eq_false (fun e => hmem (HKM.out.1 e))] at hlk
          obtain ⟨w11, hput, hS11, hg11⟩ := HM10.out.seen.put (by rw [List.length_map]; omega) HK64.out (fun e => hmem (HKM.out.1 e))
          have HS11 := Lib.hid hS11
          have HG11 := Lib.hid hg11
          have HAD : Hid (([loS ns x v, hiS ns x v].take (k + 1)).foldl addN A = A2 ++ [y]) := by
           show _ = _
           rw [HFO.out]; unfold addN; rw [if_neg hmem]
          have HBY10 := Lib.hid (HBY.out.new HB10.out)
          have HS10 : Hid (w9.heap.size <= w10.heap.size) := HB10.out.size
          have hs11 := hg11.size
          have HRW : Hid (w11.ownsRow (w3.heap.size + 1) 43 1 (.slice ya A2.length yc) A2.length (tcells n gs2)) := by
           have hr := HM10.out.tabs.row
           rw [HGY.out] at hr
           exact hr.kept hg11 (.inr (fun e => by have := (HM10.out.own e).1; omega))
          have HMB : Hid (w3.heap.size + 1 <= w11.heap.size) := by
           show _ <= _
           have := HM10.out.seen.lt
           omega
          generalize hkT : keyT T = kT at *
          have HKT := Lib.hid hkT
          obtain ⟨i0, hin', hz0, hz1, hz2⟩ := info_parts infoTable
          clear hkT hS11 hg11 hs11
          go_wp2_with (at_builtin; refine wpList_append_own_at _ rfl _ _ 25 rfl (w3.heap.size + 1) 43 i0 (.slice none 0 0) 1 24 Tryz.underlying25 hin' hz0 hz1 hz2 rfl (by decide) _ _ _ rfl (HRW.out.alloc _) ⟨w11.heap.size, 0, none⟩ 1 1 [.slice (some ⟨gy, 0, none⟩) n n] rfl rfl ?c1 ?c2 ?c3 ?c4 ?c5 ?_)
          case c1 => exact cell_one_new _ _ _
          case c2 => intro u hu; simp at hu; subst hu; rfl
          case c3 => unfold maxLen; omega
          case c4 => omega
          case c5 => have := HMB.out; simp; omega
          intro v12 w12 hown12 hgrow12 _ hloc12
          have hQ12 := HQ10.out
          have hgyq : gy = gl \/ gy = gh \/ gy = w7.heap.size := HGS.out.elim .inl (fun e => .inr (.inl e))
          obtain ⟨hM12, hF12⟩ := Mid.snoc HM10.out (y := y) (gy := gy) (by rw [<- HTT.out]; exact HBY10.out) HN.out hgm (hQ12 gy hgyq).2 HYB.out HGY.out (by rw [<- HTT.out, HKT.out]; exact HS11.out) HG11.out hown12 hgrow12 hloc12 (by simp)
          have HM12 := Lib.hid hM12
          have HF12 : Hid (∀ q, q = gl \/ q = gh \/ q = w7.heap.size -> w12.heap[q]? = w8.heap[q]? /\ v12.ownBlock ≠ some q) := fun q hq => by
           have h1 := HQ9.out q hq
           have h2 := HS10.out
           have h3 := HLT.out
           obtain ⟨e1, e2⟩ := hF12 q (by omega) (by omega) (hQ12 q hq).2
           exact ⟨e1.trans (hQ12 q hq).1, e2⟩
          clear hM12 hF12 hown12 hgrow12 hloc12 hQ12
          go_wp2
          go_roundw
          case rel => first | exact ⟨k + 1, A2 ++ [y], gs2 ++ [gy], by omega, by go_num, HAD.out.symm, HM12.out, HF12.out⟩ | ((repeat apply Exists.intro); exact ⟨⟨k + 1, A2 ++ [y], gs2 ++ [gy], by omega, by go_num, HAD.out.symm, HM12.out, HF12.out⟩, rfl⟩)
          case measure => simp [intOf]; omega
      ·obtain rfl : k = 2 := by omega
       have HAE : Hid ((sidesF ns v (L.take (j + 1))).foldl addN [] = A2) := by
        show _ = _
        rw [HAN.out, HA2.out]; rfl
       go_wp2_with fail
       go_roundw
       case rel => exact ⟨j + 1, A2, gs2, by omega, by go_num, by rw [HMM2.out], HAE.out.symm, HM2.out⟩
       case measure => simp [intOf]; omega
    ·obtain rfl : L.length = j := by omega
     have hTk : L.take L.length = L := List.take_length
     have HTB : Hid (TabsAt 0 w4 (.slice xa A.length xc) n gs ((levF ns h (v + 1)).map (tabH vars ns))) := by
      have hA := HA.out
      rw [hTk] at hA
      rw [HLV.out, <- hA]
      have t := HM.out.tabs
      exact ⟨ownsRow_base t.row (Nat.zero_le _), t.len, t.lens, fun _ _ => Nat.zero_le _, t.apart, t.tabs⟩
     have HNS : Hid (s0 + m = sizeN ns h (v + 1)) := by
      have e := HMM.out
      rw [hTk] at e
      show _ = _
      rw [HNX.out, e]
     have HB4 : Hid (Below w.heap.size w w4) := HB3.out.trans (HM.out.below.mono HB3.out.size)
     clear hTk
     go_wp2_with fail
     go_roundw
     case rel => exact ⟨v + 1, gs, by omega, by go_num, by rw [<- HNS.out], HTB.out, HB4.out⟩
     case measure => simp [intOf]; omega
  ·obtain rfl : v = vars := by omega
   go_wp2
   go_ret
   exact ⟨rfl, HB3.out⟩
end Go.Proofs.YtcjjekhecjmaeaaGreatDoor
