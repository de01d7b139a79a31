/- The reference's Image: its walk, one call. -/
import Derived.Test.YtcjjekhecjmaeaaGreatDoorImRefWalk
set_option maxHeartbeats 8000000
set_option maxRecDepth 100000
namespace Go.Proofs.YtcjjekhecjmaeaaGreatDoor
open Go.RowKit Go.Maps
section
variable {B : Nat} {w00 : World} {vars : Nat} {ns : List Nd} {vb db fb bb : Nat}
theorem rwalk_step (hg : Good vars ns) (h6 : vars <= 6) (hl : ns.length <= 5000) (d : Nat) (IH : 0 < d -> RWalk B w00 vars ns vb db fb bb d) : RWalk B w00 vars ns vb db fb bb (d + 1) := by
 intro h D gs dv w g v hRB hS hD hh hB hgd hgb hgo hv hvt ht
 have hgl : gs.length = D.length := by have := hS.tabs.len; rwa [List.length_map] at this
 obtain ⟨ad, cpd, hdv, -⟩ := row1_form hS.tabs.row
 rw [hgl] at hdv
 subst hdv
 have HRB := Lib.hid hRB
 have HGL := Lib.hid hgl
 have p6 := pow_le6 h6
 have cv := hS.cv
 have HS := Lib.hid hS
 have HD := Lib.hid hD
 have HH := Lib.hid hh
 have HBO := Lib.hid hB
 have HIH := Lib.hid IH
 have HGG := Lib.hid hg
 have HTT := Lib.hid ht
 have HAP : Hid (g ≠ db /\ g ≠ bb /\ (Value.slice ad D.length cpd).ownBlock ≠ some g) := ⟨hgd, hgb, hgo⟩
 have HVT := Lib.hid hvt
 obtain ⟨n, hn⟩ : ∃ n, n = 2 ^ vars := ⟨_, rfl⟩
 have HN := Lib.hid hn
 rw [<- hn] at p6 ⊢
 have HPF := Lib.hid (show postF ns (d + 1) h D = if topOf ns h = 24 \/ h ∈ D then D else postF ns d (nd ns (pl h)).h (postF ns d (nd ns (pl h)).l D) ++ [h] from rfl)
 have HMK : ∀ W, (Instr.makeSlice 43 (.int .i64 (n : Int)) (.int .i64 (n : Int))).run Tryz.prog W = .ok (.slice (some ⟨W.heap.size, 0, none⟩) n n) (W.alloc (.cells (madeCells #[.bool false] n) 4)) := fun W => make_tab n p6 W
 have HST := Lib.hid (fun (W : World) gl gh hg => Two2.start W n p6 gl gh hg)
 clear hRB hgl hS hD hh hB IH hg ht hgd hgb hgo hvt hn
 go_enter Tryz.func50, Tryz.ntmps50
 go_wp2_with fail
 go_loopw [1] (fun vV wr => ∃ u : Nat, v <= u /\ u <= vars /\ (u : Int) <= topOf ns h /\ vV = .int .i64 (u : Int) /\ Below w.heap.size w wr) (fun vV _ => vars - (intOf vV).toNat)
 case atStart => exact ⟨v, Nat.le_refl _, hv, HVT.out, rfl, Below.refl _ _⟩
 case round =>
  obtain ⟨w0, hw0⟩ : ∃ w0, w0 = wr := ⟨_, rfl⟩
  subst hw0
  obtain ⟨u, hvu, huv, hut, rfl, hb⟩ := hrel
  have cv0 := (hb.cell (p := ⟨vb, 0, none⟩) HS.out.lt.1).trans HS.out.cv
  have HB := Lib.hid hb
  clear hb cv
  by_cases hlt : u < vars
  ·have i1 : (u : Int) < (vars : Int) := by omega
   go_upto_region 2 with fail
   go_cut [9, 10] (fun lv hv2 wx => ∃ gl gh, lv = .slice (some ⟨gl, 0, none⟩) n n /\ hv2 = .slice (some ⟨gh, 0, none⟩) n n /\ Two2 w0 wx n gl gh 0 (tabH vars ns (loS ns h u)) (tabH vars ns (hiS ns h u)))
   case first =>
    clear HS HD HH HBO HIH HGG HTT HAP HVT HPF HB
    go_region_held3 (fun _ => True) (trivial) (fail)
    all_goals
     go_wp2_with fail
     go_meet
     case rel => exact ⟨_, _, rfl, rfl, Two2.undrew (HST.out w0.drew _ _ (by first | exact .inl ⟨rfl, rfl⟩ | exact .inr ⟨rfl, rfl⟩ | exact .inl ⟨rfl, by simp⟩ | exact .inr ⟨by simp, rfl⟩) _ _)⟩
   case rest =>
   obtain ⟨gl, gh, rfl, rfl, h2⟩ := hcut
   clear HST HMK
   have HLo : Hid (∀ i, i < n -> (tabH vars ns h).getD (offN i u) false = (tabH vars ns (loS ns h u)).getD i false) := fun i hi => tab_lo HGG.out h6 hlt HH.out hut (by rw [<- HN.out]; exact hi)
   have HHi : Hid (∀ i, i < n -> (tabH vars ns h).getD (i ||| 1 <<< u) false = (tabH vars ns (hiS ns h u)).getD i false) := fun i hi => tab_hi HGG.out h6 hlt HH.out hut (by rw [<- HN.out]; exact hi) (on_num (by rw [<- HN.out]; exact hi) hlt h6).2
   have HSE := Lib.hid (sides_eq (vars := vars) HGG.out (h := h) (v := u) (by omega) HH.out)
   have hll : (tabH vars ns (loS ns h u)).length = n := by rw [tabH_len, HN.out]
   have hlh : (tabH vars ns (hiS ns h u)).length = n := by rw [tabH_len, HN.out]
   have HLL := Lib.hid hll
   have HLH := Lib.hid hlh
   have H2 := Lib.hid h2
   have HBW : Hid (∀ X, Below w0.heap.size w0 X -> BoolsAt X g (tabH vars ns h)) := fun X hX => HBO.out.new (HB.out.trans (hX.mono HB.out.size))
   clear h2 hll hlh
   go_upto_block 2 with fail
   go_cut [] (fun wx => Two2 w0 wx n gl gh n (tabH vars ns (loS ns h u)) (tabH vars ns (hiS ns h u)))
   case first =>
    clear HRB HGL HS HD HH HIH HGG HTT HAP HVT HPF HSE
    generalize tabH vars ns (loS ns h u) = Ll at *
    generalize tabH vars ns (hiS ns h u) = Lh at *
    go_wp2_with fail
    go_loopw [27] (fun iV wr => ∃ i : Nat, i <= n /\ iV = .int .i64 (i : Int) /\ Two2 w0 wr n gl gh i Ll Lh) (fun iV _ => n - (intOf iV).toNat)
    case atStart => exact ⟨0, Nat.zero_le _, rfl, H2.out⟩
    case round =>
     obtain ⟨w3, hw3⟩ : ∃ w3, w3 = wr := ⟨_, rfl⟩
     subst hw3
     obtain ⟨i, hi, rfl, h3⟩ := hrel
     clear H2
     by_cases hin : i < n
     ·have j1 : (i : Int) < (n : Int) := by omega
      have hiv : i < 2 ^ vars := by rw [<- HN.out]; exact hin
      obtain ⟨of1, of2⟩ := off_num hiv hlt h6
      obtain ⟨on1, on2⟩ := on_num hiv hlt h6
      have hlo := HLo.out i hin
      have hhi := HHi.out i hin
      have hBX := HBW.out w3 h3.below
      have htl : (tabH vars ns h).length = 2 ^ vars := tabH_len h
      have q1 := hBX.cells (offN i u) (by rw [htl]; exact of2)
      have q2 := hBX.cells (i ||| 1 <<< u) (by rw [htl]; exact on2)
      have e1 : (tabH vars ns h)[offN i u]'(by rw [htl]; exact of2) = Ll.getD i false := by rw [<- hlo, List.getD_eq_getElem?_getD, List.getElem?_eq_getElem (by rw [htl]; exact of2)]; rfl
      have e2 : (tabH vars ns h)[i ||| 1 <<< u]'(by rw [htl]; exact on2) = Lh.getD i false := by rw [<- hhi, List.getD_eq_getElem?_getD, List.getElem?_eq_getElem (by rw [htl]; exact on2)]; rfl
      rw [e1] at q1
      rw [e2] at q2
      have cl : ∃ b, w3.cell? ⟨gl, i, none⟩ = some (.bool b) := by
       have := h3.rl.cellAt i (by omega)
       rw [mcells_at _ _ (by rw [partT_len HLL.out (by omega)]; exact hin)] at this
       exact ⟨_, this⟩
      have chh : ∃ b, w3.cell? ⟨gh, i, none⟩ = some (.bool b) := by
       have := h3.rh.cellAt i (by omega)
       rw [mcells_at _ _ (by rw [partT_len HLH.out (by omega)]; exact hin)] at this
       exact ⟨_, this⟩
      obtain ⟨bl0, cl⟩ := cl
      obtain ⟨bh0, ch⟩ := chh
      have fl := h3.rl.frozenAt i
      have fh := h3.rh.frozenAt i
      have of3 : offN i u < n := by rw [HN.out]; exact of2
      have on3 : i ||| 1 <<< u < n := by rw [HN.out]; exact on2
      generalize offN i u = oi at *
      generalize i ||| 1 <<< u = ni at *
      have o1 : (oi : Int) < (n : Int) := by omega
      have o2 : (ni : Int) < (n : Int) := by omega
      generalize hp : Ll.getD i false = p at *
      generalize hq : Lh.getD i false = q at *
      have HSTEP : Hid (∀ X, Below w3.heap.size w3 X -> Two2 w0 ((X.setCell ⟨gl, i, none⟩ (.bool p)).setCell ⟨gh, i, none⟩ (.bool q)) n gl gh (i + 1) Ll Lh) := fun X hX => h3.step hX HLL.out HLH.out hin p q hp hq
      have nlh : gl ≠ gh := h3.ne
      have ngl : g ≠ gl := fun e => by have h1 := h3.gel.1; have h2 := (HBO.out).lt; have h4 := HB.out.size; omega
      have ngh : g ≠ gh := fun e => by have h1 := h3.gel.2; have h2 := (HBO.out).lt; have h4 := HB.out.size; omega
      have XL : ∀ b, (w3.drew.setCell ⟨gl, i, none⟩ (.bool b)).cell? ⟨gh, i, none⟩ = some (.bool bh0) /\ (w3.drew.setCell ⟨gl, i, none⟩ (.bool b)).frozen? ⟨gh, i, none⟩ = false /\ (w3.drew.setCell ⟨gl, i, none⟩ (.bool b)).cell? ⟨g, oi, none⟩ = some (.bool p) /\ (w3.drew.setCell ⟨gl, i, none⟩ (.bool b)).cell? ⟨g, ni, none⟩ = some (.bool q) := fun b => by
       have hk : Kept (fun j => j = gl) w3 (w3.drew.setCell ⟨gl, i, none⟩ (.bool b)) := (Kept.of_below (Below.refl _ _).drew _).trans (Kept.setCell _ _ _ rfl)
       have lh := (h3.rh.lt gh rfl).2
       have lg := hBX.lt
       exact ⟨(hk.cell (a := ⟨gh, i, none⟩) lh (fun e => nlh e.symm)).trans ch, (hk.frozen (a := ⟨gh, i, none⟩) lh (fun e => nlh e.symm)).trans fh, (hk.cell (a := ⟨g, oi, none⟩) lg ngl).trans q1, (hk.cell (a := ⟨g, ni, none⟩) lg ngl).trans q2⟩
      have XH : ∀ b, (w3.drew.setCell ⟨gh, i, none⟩ (.bool b)).cell? ⟨gl, i, none⟩ = some (.bool bl0) /\ (w3.drew.setCell ⟨gh, i, none⟩ (.bool b)).frozen? ⟨gl, i, none⟩ = false /\ (w3.drew.setCell ⟨gh, i, none⟩ (.bool b)).cell? ⟨g, oi, none⟩ = some (.bool p) /\ (w3.drew.setCell ⟨gh, i, none⟩ (.bool b)).cell? ⟨g, ni, none⟩ = some (.bool q) := fun b => by
       have hk : Kept (fun j => j = gh) w3 (w3.drew.setCell ⟨gh, i, none⟩ (.bool b)) := (Kept.of_below (Below.refl _ _).drew _).trans (Kept.setCell _ _ _ rfl)
       have ll := (h3.rl.lt gl rfl).2
       have lg := hBX.lt
       exact ⟨(hk.cell (a := ⟨gl, i, none⟩) ll nlh).trans cl, (hk.frozen (a := ⟨gl, i, none⟩) ll nlh).trans fl, (hk.cell (a := ⟨g, oi, none⟩) lg ngh).trans q1, (hk.cell (a := ⟨g, ni, none⟩) lg ngh).trans q2⟩
      have cl' : w3.drew.cell? ⟨gl, i, none⟩ = some (.bool bl0) := cl
      have ch' : w3.drew.cell? ⟨gh, i, none⟩ = some (.bool bh0) := ch
      have fl' : w3.drew.frozen? ⟨gl, i, none⟩ = false := fl
      have fh' : w3.drew.frozen? ⟨gh, i, none⟩ = false := fh
      have hu64 : (2 : Nat) ^ u <= 64 := Nat.pow_le_pow_right (n := 2) (by omega) (by omega : u <= 6)
      have hw3 : IntKind.i64.wrap ((2 : Int) ^ u) = (2 : Int) ^ u := by
       have e : ((2 : Int) ^ u) = ((2 ^ u : Nat) : Int) := by simp
       rw [e]; generalize 2 ^ u = z at *; rw [IntWalk.i64_left]; unfold wrap64; omega
      have hw2 : wrap64 ((2 : Int) ^ u) = (2 : Int) ^ u := by
       have e : ((2 : Int) ^ u) = ((2 ^ u : Nat) : Int) := by simp
       rw [e]; generalize 2 ^ u = z at *; unfold wrap64; omega
      have SB : w3.drew.cell? ⟨g, oi, none⟩ = some (.bool p) /\ w3.drew.cell? ⟨g, ni, none⟩ = some (.bool q) := ⟨q1, q2⟩
      obtain ⟨xl1, xl2, xl3, xl4⟩ := XL p
      obtain ⟨xh1, xh2, xh3, xh4⟩ := XH q
      have yl1 : (w3.setCell ⟨gl, i, none⟩ (.bool p)).drew.cell? ⟨gh, i, none⟩ = some (.bool bh0) := xl1
      have yl2 : (w3.setCell ⟨gl, i, none⟩ (.bool p)).drew.frozen? ⟨gh, i, none⟩ = false := xl2
      have yh1 : (w3.setCell ⟨gh, i, none⟩ (.bool q)).drew.cell? ⟨gl, i, none⟩ = some (.bool bl0) := xh1
      have yh2 : (w3.setCell ⟨gh, i, none⟩ (.bool q)).drew.frozen? ⟨gl, i, none⟩ = false := xh2
      have YL3 : Hid ((w3.setCell ⟨gl, i, none⟩ (.bool p)).drew.cell? ⟨g, oi, none⟩ = some (.bool p) /\ (w3.setCell ⟨gl, i, none⟩ (.bool p)).drew.cell? ⟨g, ni, none⟩ = some (.bool q)) := ⟨xl3, xl4⟩
      have YH3 : Hid ((w3.setCell ⟨gh, i, none⟩ (.bool q)).drew.cell? ⟨g, oi, none⟩ = some (.bool p) /\ (w3.setCell ⟨gh, i, none⟩ (.bool q)).drew.cell? ⟨g, ni, none⟩ = some (.bool q)) := ⟨xh3, xh4⟩
      have ZZ : Hid (((w3.setCell ⟨gl, i, none⟩ (.bool p)).setCell ⟨gh, i, none⟩ (.bool q)).drew.cell? ⟨g, oi, none⟩ = some (.bool p) /\ ((w3.setCell ⟨gl, i, none⟩ (.bool p)).setCell ⟨gh, i, none⟩ (.bool q)).drew.cell? ⟨g, ni, none⟩ = some (.bool q)) := by
       have hk : Kept (fun j => j = gl \/ j = gh) w3 ((w3.setCell ⟨gl, i, none⟩ (.bool p)).setCell ⟨gh, i, none⟩ (.bool q)).drew := ((Kept.setCell w3 ⟨gl, i, none⟩ (.bool p) (.inl rfl)).trans (Kept.setCell _ _ _ (.inr rfl))).trans (Kept.of_below (Below.refl _ _).drew _)
       have lg := hBX.lt
       have ng : ¬ (g = gl \/ g = gh) := fun e => e.elim ngl ngh
       exact ⟨(hk.cell (a := ⟨g, oi, none⟩) lg ng).trans q1, (hk.cell (a := ⟨g, ni, none⟩) lg ng).trans q2⟩
      have XL3 := Lib.hid (show _ /\ _ from ⟨xl3, xl4⟩)
      have XH3 := Lib.hid (show _ /\ _ from ⟨xh3, xh4⟩)
      clear hp hq h3 XL XH hBX hlo hhi e1 e2 HLo HHi HBW htl cl ch fl fh HBO HB HN hiv xl3 xl4 xh3 xh4 hu64
      go_wp2_with fail
      go_region_held3 (fun X => X.cell? ⟨g, oi, none⟩ = some (.bool p) /\ X.cell? ⟨g, ni, none⟩ = some (.bool q)) (first | exact SB | exact XL3.out | exact XH3.out | exact YL3.out | exact YH3.out | exact ZZ.out) (fail)
      all_goals
       go_wp2_with fail
       go_roundw
       case rel => first | exact ⟨i + 1, by omega, by go_num, (HSTEP.out w3 (Below.refl _ _)).adrew⟩ | ((repeat apply Exists.intro); exact ⟨⟨i + 1, by omega, by go_num, (HSTEP.out w3 (Below.refl _ _)).adrew⟩, rfl⟩)
       case measure => simp [intOf]; omega
     ·obtain rfl : n = i := by omega
      go_wp2_with fail
      go_meet
      exact h3
   case rest =>
   obtain ⟨w4, hw4⟩ : ∃ w4, w4 = wc := ⟨_, rfl⟩
   subst hw4
   obtain ⟨bl, bh⟩ := hcut.done HLL.out HLH.out
   obtain ⟨gel1, gel2⟩ := hcut.gel
   have nlh := hcut.ne
   have hB4 := HB.out.trans (hcut.below.mono HB.out.size)
   have HB4 := Lib.hid hB4
   have hw04 := hcut.below.size
   have hw0 := HB.out.size
   have hSM := same_any (w := w4) (c1 := n) (c2 := n) bl bh HLL.out HLH.out (by omega)
   have HBL := Lib.hid bl
   have HBH := Lib.hid bh
   clear hcut H2 bl bh HLo HHi HBW hB4 HLL HLH
   by_cases htp : topOf ns h = u
   ·have hne : ¬ (tabH vars ns (loS ns h u) = tabH vars ns (hiS ns h u)) := fun e => (HSE.out.1 e) htp
    rw [decide_eq_false hne] at hSM
    have HSM := Lib.hid hSM
    have ht24 : topOf ns h ≠ 24 := by omega
    have elo : loS ns h u = (nd ns (pl h)).l := by unfold loS; rw [if_pos htp]
    have ehi : hiS ns h u = (nd ns (pl h)).h := by unfold hiS; rw [if_pos htp]
    rw [elo] at HBL
    rw [ehi] at HBH
    have HT24 := Lib.hid ht24
    have HTP := Lib.hid htp
    have HLTS : Hid (w0.heap.size <= gl /\ w0.heap.size <= gh /\ gl ≠ gh /\ w.heap.size <= w0.heap.size /\ w0.heap.size <= w4.heap.size) := ⟨gel1, gel2, nlh, hw0, hw04⟩
    have hu1 : (u : Int) + 1 <= 6 := by omega
    clear hSM hne elo ehi HSE ht24 htp gel1 gel2 nlh hw0 hw04
    go_wp2_with fail
    refine HSM.out.mono ?_
    rintro e w5 ⟨rfl, hb5⟩
    have hB5 := HB4.out.trans (hb5.mono HB4.out.size)
    have hS5 := HS.out.new hB5
    have HS5 := Lib.hid hS5
    have HB5 := Lib.hid hB5
    have HBG5 : Hid (BoolsAt w5 g (tabH vars ns h)) := HBO.out.new hB5
    have HBL5 : Hid (BoolsAt w5 gl (tabH vars ns (nd ns (pl h)).l)) := HBL.out.new hb5
    have HBH5 : Hid (BoolsAt w5 gh (tabH vars ns (nd ns (pl h)).h)) := HBH.out.new hb5
    have cd5 := hS5.d0
    have hw45 := hb5.size
    have HW45 := Lib.hid hw45
    clear HSM hb5 hB5 hS5 HBL HBH hw45
    go_wp2_with fail
    go_loopw [58] (fun iV wr => ∃ k : Nat, k <= D.length /\ iV = .int .i64 (k : Int) /\ Below w5.heap.size w5 wr /\ h ∉ D.take k) (fun iV _ => D.length - (intOf iV).toNat)
    case atStart => exact ⟨0, Nat.zero_le _, rfl, Below.refl _ _, by simp⟩
    case round =>
     obtain ⟨w6, hw6⟩ : ∃ w6, w6 = wr := ⟨_, rfl⟩
     subst hw6
     obtain ⟨k, hk, rfl, hb6, hnk⟩ := hrel
     by_cases hkl : k < D.length
     ·obtain ⟨hkg, bk⟩ := HS5.out.bools k hkl
      obtain ⟨g0, c0, e0, hg0, cells0, -⟩ := HS5.out.tabs.form (by omega)
      injection e0 with e1 e2 e3
      subst e1
      subst e3
      clear e2
      have ck := (hb6.cell (p := ⟨g0, k, none⟩) hg0).trans (cells0 k hkg)
      rw [<- HN.out] at ck
      have i2 : (k : Int) < (D.length : Int) := by omega
      have hs := same_any (w := w6) (c1 := n) (c2 := n) (n := n) (bk.new hb6) (HBG5.out.new hb6) (by rw [tabH_len, HN.out]) (by rw [tabH_len, HN.out]) (by omega)
      have hk5 : (k : Int) <= 5000 := by
       have := listed_len HD.out
       omega
      obtain ⟨gk, hgk⟩ : ∃ x, x = gs[k] := ⟨_, rfl⟩
      rw [<- hgk] at ck hs
      clear hgk bk cells0
      by_cases e : D[k] = h
      ·rw [decide_eq_true (by rw [e])] at hs
       have HSS := Lib.hid hs
       have hm : h ∈ D := by rw [<- e]; exact List.getElem_mem hkl
       have hix : D.idxOf h = k := by rw [<- e]; exact HD.out.nodup.idxOf_getElem k hkl
       have hnum : numD D h = (k : Int) + 2 := by
        have := (node_at HT24.out).1
        unfold numD; rw [if_neg (by omega), hix]; omega
       have HFIN : Hid (∀ W, Below w5.heap.size w5 W -> ROut vars ns vb db fb bb (postF ns (d + 1) h D) h (.slice (some ⟨g0, 0, none⟩) D.length cpd) w (.returned (.int .i64 ((k : Int) + 2))) W) := fun W hW => by
        rw [HPF.out, if_pos (.inr hm)]
        have hBW := HB5.out.trans (hW.mono HB5.out.size)
        exact ⟨gs, _, by rw [hnum], HS.out.new hBW, Fr.of_below hBW⟩
       have HB6 := Lib.hid hb6
       clear hs hix hnum hm hb6 hnk
       go_wp2_with fail
       refine HSS.out.mono ?_
       rintro e w7 ⟨rfl, hb7⟩
       have hfin := HFIN.out w7 (HB6.out.trans (hb7.mono HB6.out.size))
       go_wp2_with fail
       go_ret
       exact hfin
      ·have hbk : hasB ns D[k] = true := by
        have := top_lt HGG.out.ranked (HD.out.node D[k] (List.getElem_mem hkl))
        unfold hasB; simp [this]
       rw [decide_eq_false (fun e2 => e ((tabH_same HGG.out hbk HH.out).1 e2))] at hs
       have HSS := Lib.hid hs
       have hnk2 : h ∉ D.take (k + 1) := by
        rw [List.take_succ_eq_append_getElem hkl, List.mem_append, List.mem_singleton]
        exact fun e2 => e2.elim hnk (fun e3 => e e3.symm)
       have HNK := Lib.hid hnk2
       have HB6 := Lib.hid hb6
       clear hs hbk hnk2 hb6 hnk
       go_wp2_with fail
       refine HSS.out.mono ?_
       rintro e w7 ⟨rfl, hb7⟩
       have HB7 := Lib.hid (HB6.out.trans (hb7.mono HB6.out.size))
       clear hb7
       go_wp2_with fail
       go_roundw
       case rel => exact ⟨k + 1, by omega, by go_num, HB7.out, HNK.out⟩
       case measure => simp [intOf]; omega
     ·obtain rfl : D.length = k := by omega
      rw [List.take_length] at hnk
      obtain ⟨k1, k2, k3, k4⟩ := kids HGG.out.ranked HT24.out
      obtain ⟨m1, m2, m3, m4⟩ := node_at HT24.out
      obtain ⟨P1, P2, P3⟩ := post_ok HGG.out.ranked d _ D HD.out k2 (by have := HTT.out; omega)
      obtain ⟨Q1, Q2, Q3⟩ := post_ok HGG.out.ranked d _ _ P1 k4 (by have := HTT.out; omega)
      have hn2 : h ∉ postF ns d (nd ns (pl h)).h (postF ns d (nd ns (pl h)).l D) := fun hm => by
       rcases Q3 h hm with hm | hm
       ·rcases P3 h hm with hm | hm
        ·exact hnk hm
        ·omega
       ·omega
      have hpost : postF ns (d + 1) h D = postF ns d (nd ns (pl h)).h (postF ns d (nd ns (pl h)).l D) ++ [h] := by
       rw [HPF.out, if_neg (fun e => e.elim HT24.out hnk)]
      have hlR : InD (postF ns d (nd ns (pl h)).h (postF ns d (nd ns (pl h)).l D)) (nd ns (pl h)).l := P2.mono (fun x hx => post_mono hx)
      have hnl : numD (postF ns d (nd ns (pl h)).l D) (nd ns (pl h)).l = numD (postF ns d (nd ns (pl h)).h (postF ns d (nd ns (pl h)).l D)) (nd ns (pl h)).l := by
       obtain ⟨E, e⟩ := post_pre (ns := ns) d (nd ns (pl h)).h (postF ns d (nd ns (pl h)).l D)
       rw [e, numD_app P2]
      have hnum := numD_new (by omega) (by omega) hn2
      have hline := line_snoc Q1 hlR Q2 (h := h)
      have hline2 : lineF ns (postF ns d (nd ns (pl h)).h (postF ns d (nd ns (pl h)).l D)) h = toldF [(u : Int), numD (postF ns d (nd ns (pl h)).l D) (nd ns (pl h)).l, numD (postF ns d (nd ns (pl h)).h (postF ns d (nd ns (pl h)).l D)) (nd ns (pl h)).h] ++ [10] := by
       unfold lineF; rw [<- hnl, <- m3, HTP.out]
      have hlen := listed_len Q1
      have htxl : (List.flatMap (lineF ns (postF ns d (nd ns (pl h)).h (postF ns d (nd ns (pl h)).l D))) (postF ns d (nd ns (pl h)).h (postF ns d (nd ns (pl h)).l D))).length <= 455000 := by
       have h1 : (List.flatMap (lineF ns (postF ns d (nd ns (pl h)).h (postF ns d (nd ns (pl h)).l D))) (postF ns d (nd ns (pl h)).h (postF ns d (nd ns (pl h)).l D))).length <= 91 * ((postF ns d (nd ns (pl h)).h (postF ns d (nd ns (pl h)).l D))).length := flat_len (fun x hx => line_len HGG.out.ranked Q1 (by omega) hx)
       exact Nat.le_trans h1 (by omega)
      have HTXL := Lib.hid htxl
      clear htxl
      have HIL : Hid (∀ W gs dv, RB B w00 W db bb dv -> RSt W vars ns vb db fb bb D gs dv -> BoolsAt W gl (tabH vars ns (nd ns (pl h)).l) -> gl ≠ db -> gl ≠ bb -> dv.ownBlock ≠ some gl -> Calls Tryz.prog 50 #[.slice (some ⟨gl, 0, none⟩) n n, .int .i64 ((u : Int) + 1), .pointer (some ⟨vb, 0, none⟩), .pointer (some ⟨db, 0, none⟩), .pointer (some ⟨fb, 0, none⟩), .pointer (some ⟨bb, 0, none⟩)] W (ROut vars ns vb db fb bb (postF ns d (nd ns (pl h)).l D) (nd ns (pl h)).l dv W)) := fun W gs dv x0 x1 x2 x3 x4 x5 => by
       have := HIH.out (by have h1 := HTT.out; have h2 := HTP.out; omega) (nd ns (pl h)).l D gs dv W gl (u + 1) x0 x1 HD.out k2 x2 x3 x4 x5 (by omega) (by have := HTP.out; omega) (by have := HTT.out; omega)
       rw [<- HN.out] at this
       exact this
      have HIR : Hid (∀ W gs dv, RB B w00 W db bb dv -> RSt W vars ns vb db fb bb (postF ns d (nd ns (pl h)).l D) gs dv -> BoolsAt W gh (tabH vars ns (nd ns (pl h)).h) -> gh ≠ db -> gh ≠ bb -> dv.ownBlock ≠ some gh -> Calls Tryz.prog 50 #[.slice (some ⟨gh, 0, none⟩) n n, .int .i64 ((u : Int) + 1), .pointer (some ⟨vb, 0, none⟩), .pointer (some ⟨db, 0, none⟩), .pointer (some ⟨fb, 0, none⟩), .pointer (some ⟨bb, 0, none⟩)] W (ROut vars ns vb db fb bb (postF ns d (nd ns (pl h)).h (postF ns d (nd ns (pl h)).l D)) (nd ns (pl h)).h dv W)) := fun W gs dv x0 x1 x2 x3 x4 x5 => by
       have := HIH.out (by have h1 := HTT.out; have h2 := HTP.out; omega) (nd ns (pl h)).h _ gs dv W gh (u + 1) x0 x1 P1 k4 x2 x3 x4 x5 (by omega) (by have := HTP.out; omega) (by have := HTT.out; omega)
       rw [<- HN.out] at this
       exact this
      have hS6 := HS5.out.new hb6
      have cf6 := hS6.cf
      have hB6 := HB5.out.trans (hb6.mono HB5.out.size)
      have hF6 : Fr db bb (.slice ad D.length cpd) w w6 (.slice ad D.length cpd) := Fr.of_below hB6
      have hRB6 := HRB.out.new hB6
      have HBG6 : Hid (BoolsAt w6 g (tabH vars ns h)) := HBG5.out.new hb6
      have HBL6 : Hid (BoolsAt w6 gl (tabH vars ns (nd ns (pl h)).l)) := HBL5.out.new hb6
      have HBH6 : Hid (BoolsAt w6 gh (tabH vars ns (nd ns (pl h)).h)) := HBH5.out.new hb6
      have hdl := HS.out.dlt
      have hrl := fun j hj => (HS.out.tabs.row.lt j hj).2
      have hsz := HLTS.out
      have h45 := HW45.out
      have h56 := hb6.size
      have NL : Hid (gl ≠ db /\ gl ≠ bb /\ (Value.slice ad D.length cpd).ownBlock ≠ some gl /\ gh ≠ db /\ gh ≠ bb /\ (Value.slice ad D.length cpd).ownBlock ≠ some gh /\ gl < w6.heap.size /\ gh < w6.heap.size) := ⟨by omega, by omega, fun e => by have := hrl _ e; omega, by omega, by omega, fun e => by have := hrl _ e; omega, HBL6.out.lt, HBH6.out.lt⟩
      have HPOST := Lib.hid hpost
      have HNUM := Lib.hid hnum
      have HLINE := Lib.hid hline
      have HLINE2 := Lib.hid hline2
      have hRl : (postF ns d (nd ns (pl h)).h (postF ns d (nd ns (pl h)).l D)).length <= 5000 := by omega
      have hnb1 : 0 <= numD (postF ns d (nd ns (pl h)).l D) (nd ns (pl h)).l /\ numD (postF ns d (nd ns (pl h)).l D) (nd ns (pl h)).l < 5002 := by
       have := numD_bd P2
       have := listed_len P1
       omega
      have hnb2 : 0 <= numD (postF ns d (nd ns (pl h)).h (postF ns d (nd ns (pl h)).l D)) (nd ns (pl h)).h /\ numD (postF ns d (nd ns (pl h)).h (postF ns d (nd ns (pl h)).l D)) (nd ns (pl h)).h < 5002 := by
       have := numD_bd Q2
       omega
      have HNB1 := Lib.hid hnb1
      have HNB2 := Lib.hid hnb2
      unfold ROut at HIL HIR
      clear P1 P2 P3 Q1 Q2 Q3 hn2 hpost hlR hnl hnum hline hline2 hlen k1 k2 k3 k4 m1 m2 m3 m4 HPF HIH hnb1 hnb2 HS5 HB5 HBG5 HBL5 HBH5 hdl hrl hsz h45 h56 cd5 HW45 HB4 hb6 hB6
      generalize (postF ns d (nd ns (pl h)).h (postF ns d (nd ns (pl h)).l D)) = R at *
      generalize postF ns d (nd ns (pl h)).l D = L at *
      generalize numD L (nd ns (pl h)).l = xl at *
      generalize numD R (nd ns (pl h)).h = xh at *
      have HS6 := Lib.hid hS6
      have HF6 := Lib.hid hF6
      have HRB6 := Lib.hid hRB6
      clear hS6 hF6 hRB6
      go_wp2_with fail
      refine (HIL.out w6 gs _ HRB6.out HS6.out HBL6.out NL.out.1 NL.out.2.1 NL.out.2.2.1).mono ?_
      rintro e w7 ⟨gs7, dv7, rfl, hS7, hF7⟩
      have n4 := NL.out.2.2.2
      have HRB7 := Lib.hid (HRB6.out.fr hF7)
      have nWh : ¬ Wr db bb (.slice ad D.length cpd) gh := fun e => e.elim n4.1 (fun e => e.elim n4.2.1 n4.2.2.1)
      have nWg : ¬ Wr db bb (.slice ad D.length cpd) g := fun e => e.elim HAP.out.1 (fun e => e.elim HAP.out.2.1 HAP.out.2.2)
      have HBH7 : Hid (BoolsAt w7 gh (tabH vars ns (nd ns (pl h)).h)) := HBH6.out.kept hF7.kept nWh
      have HBG7 : Hid (BoolsAt w7 g (tabH vars ns h)) := HBG6.out.kept hF7.kept nWg
      have oh7 : dv7.ownBlock ≠ some gh := fun e => by
       rcases hF7.own gh e with e | e
       ·exact n4.2.2.1 e
       ·have := n4.2.2.2.2; omega
      have og7 : dv7.ownBlock ≠ some g := fun e => by
       rcases hF7.own g e with e | e
       ·exact HAP.out.2.2 e
       ·have := HBG6.out.lt; omega
      have cf7 := hS7.cf
      have HS7 := Lib.hid hS7
      have HF7 := Lib.hid (HF6.out.trans hF7)
      have N4 : Hid (gh ≠ db /\ gh ≠ bb) := ⟨n4.1, n4.2.1⟩
      have OG : Hid (dv7.ownBlock ≠ some g /\ dv7.ownBlock ≠ some gh) := ⟨og7, oh7⟩
      clear cf6 hS7 hF7 n4 nWh nWg oh7 og7 HIL HBL6 HBH6 HBG6 HRB6 HS6
      go_wp2_with fail
      refine (HIR.out w7 gs7 dv7 HRB7.out HS7.out HBH7.out N4.out.1 N4.out.2 OG.out.2).mono ?_
      rintro e w8 ⟨gs8, dv8, rfl, hS8, hF8⟩
      have nWg : ¬ Wr db bb dv7 g := fun e => e.elim HAP.out.1 (fun e => e.elim HAP.out.2.1 OG.out.1)
      have HBG8 : Hid (BoolsAt w8 g (tabH vars ns h)) := HBG7.out.kept hF8.kept nWg
      have og8 : dv8.ownBlock ≠ some g := fun e => by
       rcases hF8.own g e with e | e
       ·exact OG.out.1 e
       ·have := HBG7.out.lt; omega
      have HRB8 := Lib.hid (HRB7.out.fr hF8)
      have HF8 := Lib.hid (HF7.out.trans hF8)
      have hgl8 : gs8.length = R.length := by have := hS8.tabs.len; rwa [List.length_map] at this
      obtain ⟨a8, c8, hdv, -⟩ := row1_form hS8.tabs.row
      rw [hgl8] at hdv
      subst hdv
      have cd8 := hS8.d0
      have hrow8 := hS8.tabs.row
      rw [<- HN.out, hgl8] at hrow8
      have HRC := Lib.hid hrow8
      have HS8 := Lib.hid hS8
      have HGL8 := Lib.hid hgl8
      have OG8 := Lib.hid og8
      obtain ⟨i0, hin, hz0, hz1, hz2⟩ := info_parts infoTable
      clear hS8 hF8 nWg og8 hgl8 hrow8 HF7 HS7 HRB7 HBG7 HBH7 HIR cf7 OG N4
      go_wp2_with (at_builtin; refine wpList_append_own_at _ rfl _ _ 25 rfl 0 43 i0 (.slice none 0 0) 1 24 Tryz.underlying25 hin hz0 hz1 hz2 rfl (by decide) _ _ _ rfl (HRC.out.alloc _) ⟨w8.heap.size, 0, none⟩ 1 1 [.slice (some ⟨g, 0, none⟩) n n] rfl rfl ?c1 ?c2 ?c3 ?c4 ?c5 ?_)
      case c1 => exact cell_one_new _ _ _
      case c2 => intro u hu; simp at hu; subst hu; rfl
      case c3 => unfold maxLen; omega
      case c4 => omega
      case c5 => exact Nat.zero_le _
      intro v9 w9 hown9 hgrow9 _ hloc9
      have hk9 : Kept (fun j => (Value.slice a8 R.length c8).ownBlock = some j) w8 w9 := (Kept.alloc _ w8 _).andThen (Kept.of_grown hgrow9 (fun i h => h)) (fun i h _ => h)
      obtain ⟨a9, d9, rfl⟩ : ∃ a d, v9 = .slice a (R.length + 1) d := by
       obtain ⟨a, c, e, -⟩ := row1_form hown9
       exact ⟨_, _, e⟩
      rw [HN.out] at hown9
      have hod : (Value.slice a8 R.length c8).ownBlock ≠ some db := fun e => (HS8.out.own _ e).2.1 rfl
      have hob : (Value.slice a8 R.length c8).ownBlock ≠ some bb := fun e => (HS8.out.own _ e).2.2.2 rfl
      have hdl := HS8.out.dlt
      have b9 : w9.heap[db]? = some (.cells #[.slice a8 R.length c8] 25) := (hk9.block db hdl.1 hod).trans HS8.out.cd
      have s9 : w9.heap[bb]? = some (.cells #[.string ⟨(R.flatMap (lineF ns R)).toArray⟩] 9) := (hk9.block bb hdl.2 hob).trans HS8.out.cb
      have c9 : w9.cell? ⟨db, 0, none⟩ = some (.slice a8 R.length c8) := by simp [World.cell?, b9]
      have f9 : w9.frozen? ⟨db, 0, none⟩ = false := by simp [World.frozen?, b9]
      have cd10 : (w9.setCell ⟨db, 0, none⟩ (.slice a9 (R.length + 1) d9)).heap[db]? = some (.cells #[.slice a9 (R.length + 1) d9] 25) := by
       obtain ⟨hlt, hkk⟩ := Array.getElem?_eq_some_iff.1 b9
       show (w9.heap.modify db _)[db]? = _
       rw [Array.getElem?_eq_getElem (by rw [Array.size_modify]; exact hlt), Array.getElem_modify_self, hkk]
       rfl
      have hk10 : Kept (fun k => k = db) w9 (w9.setCell ⟨db, 0, none⟩ (.slice a9 (R.length + 1) d9)) := Kept.setCell _ _ _ rfl
      have cb10 : (w9.setCell ⟨db, 0, none⟩ (.slice a9 (R.length + 1) d9)).heap[bb]? = some (.cells #[.string ⟨(R.flatMap (lineF ns R)).toArray⟩] 9) := (hk10.block bb (Array.getElem?_eq_some_iff.1 s9).1 (fun e => HS8.out.ne.2.2.2.2 e.symm)).trans s9
      have HOWN := Lib.hid hown9
      have HLOC := Lib.hid hloc9
      have HK9 := Lib.hid hk9
      have HK10 := Lib.hid hk10
      have HCD10 := Lib.hid cd10
      have HCB10 := Lib.hid cb10
      clear hown9 hgrow9 hloc9 hk9 hk10 cd10 cb10 b9 s9 hod hob HRC cd8
      have hdb := HS8.out.ne
      have HT10 : Hid (Tab10 (w9.setCell ⟨db, 0, none⟩ (.slice a9 (R.length + 1) d9))) := HRB8.out.tab _ (HRB8.out.below.trans (((HK9.out.mono (fun k e => .inr e)).trans (HK10.out.mono (fun k e => .inl e)) : Kept (fun k => k = db \/ (Value.slice a8 R.length c8).ownBlock = some k) w8 _).below HRB8.out.sz (fun k e => e.elim (fun e => by rw [e]; exact HRB8.out.ge.1) (HRB8.out.own k))))
      go_upto_region 19 with fail
      generalize (w9.setCell ⟨db, 0, none⟩ (.slice a9 (R.length + 1) d9)) = w10 at *
      have HLN2 : Hid (∃ LT, toldF [(u : Int), xl, xh] = LT) := ⟨_, rfl⟩
      obtain ⟨LT, hLT⟩ := HLN2.out
      have HLT := Lib.hid hLT
      have hLTL : LT.length <= 90 := by
       rw [<- hLT]
       exact told_len _ (by simp) (fun x hx => by
        have h1 := HNB1.out
        have h2 := HNB2.out
        simp at hx
        omega)
      have hbl : bb < w10.heap.size := (Array.getElem?_eq_some_iff.1 HCB10.out).1
      have HTD : Hid (∀ W, Below w10.heap.size w10 W -> w10.heap.size < W.heap.size -> (∀ j (hj : j < 3), W.cell? ⟨w10.heap.size, j, none⟩ = some (.int .i64 ([(u : Int), xl, xh][j]'hj))) -> Calls Tryz.prog 13 #[.slice (some ⟨w10.heap.size, 0, none⟩) 3 3] W fun e w' => e = .returned (.string ⟨LT.toArray⟩) /\ Below W.heap.size W w' /\ w'.heap[bb]? = some (.cells #[.string ⟨(R.flatMap (lineF ns R)).toArray⟩] 9) /\ Below w10.heap.size w10 w') := fun W hW hz hc => by
       have := rtold_any [(u : Int), xl, xh] (by simp) (by simp) (fun x hx => by
        have h1 := HNB1.out
        have h2 := HNB2.out
        simp at hx
        omega) w10.heap.size 3 W (HT10.out.below hW) hz (fun j hj => hc j hj)
       rw [HLT.out] at this
       refine this.mono ?_
       rintro e w' ⟨rfl, hb⟩
       have hb2 := hW.trans (hb.mono hW.size)
       exact ⟨rfl, hb, (hb2.block bb hbl).trans HCB10.out, hb2⟩
      have HFIN : Hid (∀ W : World, W.heap[bb]? = some (.cells #[.string ⟨(R.flatMap (lineF ns R) ++ (LT ++ [10])).toArray⟩] 9) -> Kept (fun k => k = bb) w10 W -> W.cell? ⟨db, 0, none⟩ = some (.slice a9 (R.length + 1) d9) /\ ∃ gs' dv', (Ending.returned (.int .i64 ((R.length : Int) + 2)) = .returned (.int .i64 (numD (postF ns (d + 1) h D) h))) /\ RSt W vars ns vb db fb bb (postF ns (d + 1) h D) gs' dv' /\ Fr db bb (.slice ad D.length cpd) w W dv') := fun W h1 h2 => by
       have hdbl : db < w10.heap.size := (Array.getElem?_eq_some_iff.1 HCD10.out).1
       have e1 : W.heap[db]? = some (.cells #[.slice a9 (R.length + 1) d9] 25) := (h2.block db hdbl hdb.2.2.2.2).trans HCD10.out
       have h3 : (⟨(R.flatMap (lineF ns R) ++ (LT ++ [10])).toArray⟩ : ByteArray) = ⟨((R ++ [h]).flatMap (lineF ns (R ++ [h]))).toArray⟩ := by
        rw [HLINE.out, HLINE2.out, HLT.out]
       rw [h3] at h1
       have hrow : w9.ownsRow 0 43 1 (.slice a9 (R.length + 1) d9) (gs8.length + 1) (tcells (2 ^ vars) gs8 ++ [.slice (some ⟨g, 0, none⟩) (2 ^ vars) (2 ^ vars)]) := by
        rw [HGL8.out]; exact HOWN.out
       obtain ⟨q1, q2⟩ := RSt.grow HS8.out HBG8.out HAP.out.1 HAP.out.2.1 OG8.out HK9.out hrow HLOC.out (Nat.le_succ _) ((HK10.out.mono (fun k e => .inl e)).trans (h2.mono (fun k e => .inr e))) e1 h1
       refine ⟨by simp [World.cell?, e1], gs8 ++ [g], .slice a9 (R.length + 1) d9, ?_, ?_, ?_⟩
       ·rw [HPOST.out, HNUM.out]; congr 2; omega
       ·rw [HPOST.out]; exact q1
       ·exact HF8.out.trans q2
      have HC10 : Hid (w10.heap[bb]? = some (.cells #[.string ⟨(R.flatMap (lineF ns R)).toArray⟩] 9) /\ (∀ j (hj : j < 3), (w10.alloc (.cells #[.int .i64 (u : Int), .int .i64 xl, .int .i64 xh] 3)).cell? ⟨w10.heap.size, j, none⟩ = some (.int .i64 ([(u : Int), xl, xh][j]'hj)))) := ⟨HCB10.out, fun j hj => by
       match j, hj with
       | 0, _ => simp
       | 1, _ => simp
       | 2, _ => simp⟩
      have HBN := Lib.hid (below_new w10 (.cells #[.int .i64 (u : Int), .int .i64 xl, .int .i64 xh] 3))
      have HAC : Hid (∀ (W : World) (y : Value), W.heap[bb]? = some (.cells #[.string ⟨(R.flatMap (lineF ns R)).toArray⟩] 9) -> (W.setCell ⟨bb, 0, none⟩ y).heap[bb]? = some (.cells #[y] 9)) := fun W y hy => by
       obtain ⟨hlt, hkk⟩ := Array.getElem?_eq_some_iff.1 hy
       show (W.heap.modify bb _)[bb]? = _
       rw [Array.getElem?_eq_getElem (by rw [Array.size_modify]; exact hlt), Array.getElem_modify_self, hkk]
       rfl
      generalize R.flatMap (lineF ns R) = TX at *
      have cb0 : w10.cell? ⟨bb, 0, none⟩ = some (.string ⟨TX.toArray⟩) := by simp [World.cell?, HC10.out.1]
      have fb0 : w10.frozen? ⟨bb, 0, none⟩ = false := by simp [World.frozen?, HC10.out.1]
      clear HLINE HLINE2 HLN2 HLT HNB1 HNB2 HT10 HPOST HNUM HCB10 HCD10 HOWN HLOC HK9 HK10 HS8 HGL8 OG8 HBG8 HF8 HRB8 c9 f9 hLT
      go_cut [] (fun wx => wx.heap[bb]? = some (.cells #[.string ⟨(TX ++ (LT ++ [10])).toArray⟩] 9) /\ Kept (fun k => k = bb) w10 wx)
      case first =>
       have HSTR : Hid ((⟨TX.toArray⟩ : ByteArray) ++ (⟨LT.toArray⟩ ++ ⟨#[10]⟩) = ⟨(TX ++ (LT ++ [10])).toArray⟩) := by
        apply ByteArray.ext
        simp [ByteArray.data_append]
       clear HFIN
       have HTDX := Lib.hid (HTD.out (w10.alloc (.cells #[.int .i64 (u : Int), .int .i64 xl, .int .i64 xh] 3)).drew HBN.out.drew (by show _ < (World.alloc _ _).heap.size; simp) HC10.out.2)
       clear HTD
       have hTXL := HTXL.out
       have hszL : (⟨LT.toArray⟩ : ByteArray).size = LT.length := by show LT.toArray.size = _; simp
       have hszX : (⟨TX.toArray⟩ : ByteArray).size = TX.length := by show TX.toArray.size = _; simp
       have SB0 : Hid (∀ W : World, W.heap[bb]? = some (.cells #[.string ⟨TX.toArray⟩] 9) -> W.cell? ⟨bb, 0, none⟩ = some (.string ⟨TX.toArray⟩) /\ W.frozen? ⟨bb, 0, none⟩ = false) := fun W h => ⟨by simp [World.cell?, h], by simp [World.frozen?, h]⟩
       go_region_with (go_at_call 13; refine HTDX.out.mono ?_; rintro e w' ⟨rfl, -, hbx, hbw⟩; have cbx := (SB0.out w' hbx).1; have fbx := (SB0.out w' hbx).2; skip)
       all_goals
        go_wp2_with fail
        go_meet
        case rel => exact ⟨(HAC.out _ _ hbx).trans (by rw [HSTR.out]), (Kept.of_below hbw (fun k => k = bb)).trans (Kept.setCell _ _ _ rfl)⟩
      case rest =>
      obtain ⟨cx, hkx⟩ := hcut
      obtain ⟨cdx, hfin⟩ := HFIN.out _ cx hkx
      have HQ := Lib.hid hfin
      clear hfin HFIN
      go_wp2_with fail
      go_ret
      exact HQ.out
   ·have hSM2 := hSM
    rw [decide_eq_true (HSE.out.2 htp)] at hSM2
    have HSM := Lib.hid hSM2
    have hut1 : ((u + 1 : Nat) : Int) <= topOf ns h := by omega
    have HUT := Lib.hid hut1
    have hu1 : (u : Int) + 1 <= 6 := by omega
    clear hSM hSM2 hut1
    go_wp2_with fail
    refine HSM.out.mono ?_
    rintro e w5 ⟨rfl, hb5⟩
    have HB5 := Lib.hid (HB4.out.trans (hb5.mono HB4.out.size))
    clear hb5
    go_wp2_with fail
    go_roundw
    case rel => first | exact ⟨u + 1, by omega, by omega, HUT.out, by go_num, HB5.out⟩ | ((repeat apply Exists.intro); exact ⟨⟨u + 1, by omega, by omega, HUT.out, by go_num, HB5.out⟩, rfl⟩)
    case measure => simp [intOf]; omega
  ·obtain rfl : u = vars := by omega
   have ht24 : topOf ns h = 24 := by
    by_cases e : topOf ns h = 24
    ·exact e
    ·have := top_vars HGG.out e
     omega
   have hb0 := HBO.out.new HB.out
   have hlen : (tabH u ns h).length = 2 ^ u := tabH_len h
   have hp1 : 1 <= n := by rw [HN.out]; exact Nat.one_le_two_pow
   have hi0 : 0 < (tabH u ns h).length := by rw [hlen, <- HN.out]; exact hp1
   have q0 := hb0.cells 0 hi0
   have qe : (tabH u ns h)[0] = decide (h = 1) := by rw [tabH_at, sem_end ht24]
   rw [qe] at q0
   have qa : w0.cell? (Addr.add ⟨g, 0, none⟩ 0) = some (.bool (decide (h = 1))) := q0
   have i1 : (0 : Int) < (n : Int) := by omega
   have HFIN : Hid (ROut u ns vb db fb bb (postF ns (d + 1) h D) h (.slice ad D.length cpd) w (.returned (.int .i64 (if h = 1 then 1 else 0))) w0) := by
    rw [HPF.out, if_pos (.inl ht24)]
    refine ⟨gs, .slice ad D.length cpd, ?_, HS.out.new HB.out, Fr.of_below HB.out⟩
    rcases end_of HH.out ht24 with e | e <;> subst e <;> simp [numD]
   by_cases h1 : h = 1
   ·rw [decide_eq_true h1] at q0 qa
    rw [if_pos h1] at HFIN
    clear qe hi0 hlen hb0 ht24 HPF
    go_wp2_with fail
    go_ret
    exact HFIN.out
   ·rw [decide_eq_false h1] at q0 qa
    rw [if_neg h1] at HFIN
    clear qe hi0 hlen hb0 ht24 HPF
    go_wp2_with fail
    go_ret
    exact HFIN.out
theorem rwalk_any (hg : Good vars ns) (h6 : vars <= 6) (hl : ns.length <= 5000) : ∀ d : Nat, RWalk B w00 vars ns vb db fb bb (d + 1)
 | 0 => rwalk_step hg h6 hl 0 (fun h => absurd h (Nat.lt_irrefl 0))
 | d + 1 => rwalk_step hg h6 hl (d + 1) (fun _ => rwalk_any hg h6 hl d)
end
end Go.Proofs.YtcjjekhecjmaeaaGreatDoor
