/- What the rows' lists of laid variables give; and a world in which they hold. -/
import Derived.Test.YtmhophccdfmngaaGreatDoorSvWText
import Derived.Test.YtmhophccdfmngaaGreatDoorCtAsc
import Derived.Test.YtmhophccdfmngaaGreatDoorCbOk
import Derived.Test.YtmhophccdfmngaaGreatDoorCards
import Derived.Test.YtmhophccdfmngaaGreatDoorTie
import Derived.Test.YtmhophccdfmngaaGreatDoorSvSpan
import Derived.ProofKit
import Derived.OpenShut
import Derived.Deep.DeepHandedRow
import Derived.LaidHandle
import Derived.LaidSub
import Derived.Test.YtmhophccdfmngaaGreatDoorSvPart
import Derived.Stop.LaidErr
import Derived.Shelf.Vars
import Derived.Lib.LaidTab
set_option maxHeartbeats 16000000
set_option maxRecDepth 100000
namespace Go.Proofs.YtmhophccdfmngaaGreatDoor
open Go.RowKit Go.Shelf Go.Deep Go.Sort Sv
theorem cback_skip (s : ByteArray) (w : World) (h : 1500 < s.size) : Calls Tryz.prog 9 #[.string s] w fun r w' => r = .returned (.bool true) /\ Below w.heap.size w w' := by
 have a1 : (1500 : Int) < (s.size : Int) := by omega
 clear h
 go_enter Tryz.func9, Tryz.ntmps9
 go_wp2
 go_ret
 exact ⟨rfl, Below.refl _ _⟩
theorem cback_err (s : ByteArray) (w : World) (hw : Lw w) (h : ¬ 1500 < s.size) (q : Int) (o : Option Nat) (hx : parseF s = .error (q, o)) : Calls Tryz.prog 9 #[.string s] w fun r w' => r = .returned (.bool true) /\ Below w.heap.size w w' := by
 have a1 : ¬ (1500 : Int) < (s.size : Int) := by omega
 have HP0 := parse_any_c s w hw
 rw [hx] at HP0
 have HP : Hid (Calls Tryz.prog 43 #[.string s] w fun e w' => ∃ er, e = .returned (.tuple #[.pointer none, er]) /\ ErrP w' er q o /\ Below w.heap.size w w') := HP0
 have HL : Hid (∀ W, Below w.heap.size w W -> Calls Tryz.prog 46 #[] W fun e w' => e = .returned (.bool true) /\ Below W.heap.size W w') := fun W hb => listed_c W (hw.below hb)
 clear h hx HP0 hw
 go_enter Tryz.func9, Tryz.ntmps9
 go_wp2_with fail
 refine HP.out.mono ?_
 rintro e w1 ⟨er, rfl, herr, hb1⟩
 obtain ⟨et, ev, rfl⟩ := herr.form
 have HB1 := Lib.hid hb1
 clear herr hb1 HP
 go_wp2_with fail
 refine (HL.out w1 HB1.out).mono ?_
 rintro e w2 ⟨rfl, hb2⟩
 have HB2 : Hid (Below w.heap.size w w2) := HB1.out.trans (hb2.mono HB1.out.size)
 clear hb2 HB1
 go_wp2_with fail
 refine (HL.out w2 HB2.out).mono ?_
 rintro e w3 ⟨rfl, hb3⟩
 have HB3 : Hid (Below w.heap.size w w3) := HB2.out.trans (hb3.mono HB2.out.size)
 clear hb3 HB2 HL
 go_wp2
 go_ret
 exact ⟨rfl, HB3.out⟩
theorem cback_ok (s : ByteArray) (w : World) (hw : Lw w) (h : ¬ 1500 < s.size) (ls : List Ln) (its : List It) (hx : parseF s = .ok (ls, its)) : Calls Tryz.prog 9 #[.string s] w fun r w' => r = .returned (.bool true) /\ Below w.heap.size w w' := by
 have a1 : ¬ (1500 : Int) < (s.size : Int) := by omega
 have hN := parseF_ok hx
 obtain ⟨hi24, hl100, hck⟩ := newF_ok hN
 have HASC := Lib.hid (new_asc hN).1
 have HLO := Lib.hid (lnOk_all hx)
 have HP0 := parse_any_c s w hw
 rw [hx] at HP0
 have HP : Hid (Calls Tryz.prog 43 #[.string s] w fun e w' => ∃ bc vs, e = .returned (.tuple #[.pointer (some ⟨bc, 0, none⟩), .nilIface]) /\ CatV w' bc ls vs its w.heap.size /\ (∀ k, k < w.heap.size -> RgN ls vs (some k)) /\ Below w.heap.size w w') := HP0
 have HBP := Lib.hid (fun hr hlen h1 => back_parse hN hck hr hlen h1)
 have HL : Hid (∀ W, Below w.heap.size w W -> Calls Tryz.prog 46 #[] W fun e w' => e = .returned (.bool true) /\ Below W.heap.size W w') := fun W hb => listed_c W (hw.below hb)
 have HW := Lib.hid hw
 clear h hx HP0 hw hN hck
 go_enter Tryz.func9, Tryz.ntmps9
 go_wp2_with fail
 refine HP.out.mono ?_
 rintro e w1 ⟨bc, vs, rfl, hcv, -, hb1⟩
 have hrg : ∀ i, i < ls.length -> Rg (ls.getD i default).rng := by obtain ⟨lv, iv, bm, _, h2, _⟩ := hcv; exact fun i hi => (h2.2 i hi).2
 have HRG := Lib.hid hrg
 have HC1 := Lib.hid hcv.cat
 have HB1 := Lib.hid hb1
 clear hcv hb1 HP hrg
 go_wp2_with fail
 refine (HL.out w1 HB1.out).mono ?_
 rintro e w2 ⟨rfl, hb2⟩
 have HC2 := Lib.hid (HC1.out.below hb2 (Nat.le_refl _))
 have HB2 : Hid (Below w.heap.size w w2) := HB1.out.trans (hb2.mono HB1.out.size)
 clear hb2 HB1 HL HC1
 obtain ⟨-, hlo⟩ := HLO.out HRG.out
 have HT := Lib.hid (ctext_c bc ls its w2 HC2.out hl100 hlo (HW.out.below HB2.out))
 have HTX := Lib.hid (fun bd W hc hW => ctext_c bd ls its W hc hl100 hlo hW)
 clear HLO hlo
 go_wp2_with fail
 refine HT.out.mono ?_
 rintro e w3 ⟨rfl, hb3⟩
 have HC3 := Lib.hid (HC2.out.below hb3 (Nat.le_refl _))
 have HB3 : Hid (Below w.heap.size w w3) := HB2.out.trans (hb3.mono HB2.out.size)
 clear hb3 HB2 HT HC2
 have hTs : (⟨(ctT ls).toArray⟩ : ByteArray).size = (ctT ls).length := by show (ctT ls).toArray.size = _; simp
 by_cases hbig : 20000 < (ctT ls).length
 ·have a2 : (20000 : Int) < ((⟨(ctT ls).toArray⟩ : ByteArray).size : Int) := by rw [hTs]; omega
  clear hTs hbig HTX HBP
  generalize (⟨(ctT ls).toArray⟩ : ByteArray) = T at *
  go_wp2
  go_ret
  exact ⟨rfl, HB3.out⟩
 ·have a2 : ¬ (20000 : Int) < ((⟨(ctT ls).toArray⟩ : ByteArray).size : Int) := by rw [hTs]; omega
  have HPT : Hid ((∀ i, i < ls.length -> (rgT (ls.getD i default).rng).length <= 1000) -> ∀ W, Below w.heap.size w W -> Calls Tryz.prog 43 #[.string ⟨(ctT ls).toArray⟩] W fun e w' => ∃ bd, e = .returned (.tuple #[.pointer (some ⟨bd, 0, none⟩), .nilIface]) /\ CatAt w' bd ls its /\ Below W.heap.size W w') := fun h1 W hb => by
   have hm : ∀ (Q : Ln -> Prop), (∀ i, i < ls.length -> Q (ls.getD i default)) -> ∀ x ∈ ls, Q x := fun Q hQ x hx => by
    obtain ⟨j, hj, rfl⟩ := List.getElem_of_mem hx
    have := hQ j hj
    rwa [List.getD_eq_getElem?_getD, List.getElem?_eq_getElem hj] at this
   have h2 := parse_any_c ⟨(ctT ls).toArray⟩ W (HW.out.below hb)
   rw [HBP.out (hm _ HRG.out) (by omega) (hm _ h1)] at h2
   refine h2.mono ?_
   rintro e w' ⟨bd, vs', rfl, q1, -, q3⟩
   exact ⟨bd, rfl, q1.cat, q3⟩
  have HTD : Hid (∀ bd W, CatAt W bd ls its -> Lw W -> Calls Tryz.prog 35 #[.pointer (some ⟨bd, 0, none⟩)] W fun e w' => e = .returned (.string ⟨(ctT ls).toArray⟩) /\ Below W.heap.size W w') := fun bd W h1 h2 => HTX.out bd W h1 h2
  have HLN := Lib.hid (lines_c bc ls its w3 HC3.out (by omega))
  have HIT := Lib.hid (fun W h => items_c bc ls its W h (by omega))
  clear hTs hbig HTX HBP
  generalize (⟨(ctT ls).toArray⟩ : ByteArray) = T at *
  go_wp2_with fail
  refine HLN.out.mono ?_
  rintro e w4 ⟨lv, rfl, hlv, hb4⟩
  obtain ⟨la, lc, rfl⟩ : ∃ a c, lv = .slice a ls.length c := by obtain ⟨vs', _, h2⟩ := hlv; obtain ⟨a, c, e, _⟩ := h2.form; exact ⟨a, c, e⟩
  have HC4 := Lib.hid (HC3.out.below hb4 (Nat.le_refl _))
  have HB4 : Hid (Below w.heap.size w w4) := HB3.out.trans (hb4.mono HB3.out.size)
  have HLV := Lib.hid hlv
  clear hb4 HB3 HLN HC3 hlv
  go_wp2_with fail
  go_loopw [6] (fun kV wr => ∃ k : Nat, k <= ls.length /\ kV = .int .i64 (k : Int) /\ (∀ i, i < k -> (rgT (ls.getD i default).rng).length <= 1000) /\ Below w4.heap.size w4 wr) (fun kV _ => ls.length - (intOf kV).toNat)
  case atStart => exact ⟨0, Nat.zero_le _, rfl, fun i h => by omega, Below.refl _ _⟩
  case round =>
   obtain ⟨k, hk, rfl, hall, hbr⟩ := hrel
   have HALL := Lib.hid hall
   have HBR := Lib.hid hbr
   have HB5 : Hid (Below w.heap.size w wr) := HB4.out.trans (hbr.mono HB4.out.size)
   by_cases hlt : k < ls.length
   ·obtain ⟨g, cap', rv, e1, hg, hsp, hrg, c0, c1, c2, c3, c4, c5, c6⟩ := (HLV.out.below hbr (Nat.le_refl _)).at k hlt
    simp at e1
    obtain ⟨rfl, rfl⟩ := e1
    have hii0 : (0 : Int) <= (k : Int) := by omega
    have hii1 : (k : Int) < (ls.length : Int) := by omega
    obtain ⟨X, hX⟩ : ∃ X, ls.getD k default = X := ⟨_, rfl⟩
    rw [hX] at hsp hrg
    have HX := Lib.hid hX
    have HRT := Lib.hid (ptext_any X.rng hrg rv wr (HW.out.below HB5.out).lb hsp)
    obtain ⟨ra, rc, rfl⟩ := hsp.form
    have hRs : (⟨(rgT X.rng).toArray⟩ : ByteArray).size = (rgT X.rng).length := by show (rgT X.rng).toArray.size = _; simp
    have HRS := Lib.hid hRs
    clear hall hbr hsp hrg c0 c1 c2 c3 c4 c5 hX hRs
    generalize X.rng.length = RL at *
    go_wp2_with fail
    refine HRT.out.mono ?_
    rintro e w6 ⟨rfl, hb6⟩
    have HB6 : Hid (Below w.heap.size w w6) := HB5.out.trans (hb6.mono HB5.out.size)
    have HB7 : Hid (Below w4.heap.size w4 w6) := HBR.out.trans (hb6.mono HBR.out.size)
    clear hb6 HRT
    by_cases hlong : 1000 < (rgT X.rng).length
    ·have b1 : (1000 : Int) < ((⟨(rgT X.rng).toArray⟩ : ByteArray).size : Int) := by rw [HRS.out]; omega
     clear hlong HRS HX
     generalize (⟨(rgT X.rng).toArray⟩ : ByteArray) = RT at *
     go_wp2
     go_ret
     exact ⟨rfl, HB6.out⟩
    ·have b1 : ¬ (1000 : Int) < ((⟨(rgT X.rng).toArray⟩ : ByteArray).size : Int) := by rw [HRS.out]; omega
     have HA2 : Hid (∀ i, i < k + 1 -> (rgT (ls.getD i default).rng).length <= 1000) := fun i hi => by
      rcases Nat.lt_or_ge i k with h | h
      ·exact HALL.out i h
      ·obtain rfl : i = k := by omega
       rw [HX.out]; omega
     clear hlong HRS HX HALL
     generalize (⟨(rgT X.rng).toArray⟩ : ByteArray) = RT at *
     go_wp2
     go_roundw
     case rel => exact ⟨k + 1, by omega, by go_num, HA2.out, HB7.out⟩
     case measure => simp [intOf]; omega
   ·have hni : ¬ (k : Int) < (ls.length : Int) := by omega
    obtain rfl : k = ls.length := by omega
    have HPT2 := Lib.hid (HPT.out HALL.out wr HB5.out)
    have HC5 := Lib.hid (HC4.out.below hbr (Nat.le_refl _))
    clear hall hbr HALL HPT HBR HLV HC4 HRG
    go_wp2_with fail
    refine HPT2.out.mono ?_
    rintro e w6 ⟨bd, rfl, hcd, hb6⟩
    have HB6 : Hid (Below w.heap.size w w6) := HB5.out.trans (hb6.mono HB5.out.size)
    have HC6 := Lib.hid (HC5.out.below hb6 (Nat.le_refl _))
    have HT6 := Lib.hid (HTD.out bd w6 hcd (HW.out.below HB6.out))
    clear hcd hb6 HPT2 HC5 HTD HB5
    go_wp2_with fail
    refine HT6.out.mono ?_
    rintro e w7 ⟨rfl, hb7⟩
    have HB7 : Hid (Below w.heap.size w w7) := HB6.out.trans (hb7.mono HB6.out.size)
    have HI7 := Lib.hid (HIT.out w7 (HC6.out.below hb7 (Nat.le_refl _)))
    clear hb7 HT6 HIT HC6 HB6
    go_wp2_with fail
    refine HI7.out.mono ?_
    rintro e w8 ⟨iv, rfl, hiv, hb8⟩
    obtain ⟨ia, ic, rfl, -⟩ := (rowAt_own hiv).form
    have HIV : Hid (ItsAt w8 (.slice ia its.length ic) its) := rowAt_own hiv
    have HB8 : Hid (Below w.heap.size w w8) := HB7.out.trans (hb8.mono HB7.out.size)
    clear hiv hb8 HB7 HI7
    go_wp2_with fail
    go_loopw [10] (fun kV wr => ∃ k : Nat, 1 <= k /\ k <= its.length + 1 /\ kV = .int .i64 (k : Int) /\ Below w8.heap.size w8 wr) (fun kV _ => its.length + 1 - (intOf kV).toNat)
    case atStart => exact ⟨1, Nat.le_refl _, by omega, rfl, Below.refl _ _⟩
    case round =>
     obtain ⟨k, hk1, hk, rfl, hbr⟩ := hrel
     have HBR := Lib.hid hbr
     have HB9 : Hid (Below w.heap.size w wr) := HB8.out.trans (hbr.mono HB8.out.size)
     by_cases hlt : k < its.length
     ·obtain ⟨j, hj⟩ : ∃ j, j + 1 = k := ⟨k - 1, by omega⟩
      obtain ⟨g, cap', e1, hg, x0, x1, x2, x3⟩ := (show ItsAt wr (.slice ia its.length ic) its from HIV.out.below hbr (Nat.le_refl _)).at j (by omega)
      simp at e1
      obtain ⟨rfl, rfl⟩ := e1
      obtain ⟨g', cap', e1, hg', y0, y1, y2, y3⟩ := (show ItsAt wr (.slice (some ⟨g, 0, none⟩) its.length ic) its from HIV.out.below hbr (Nat.le_refl _)).at k hlt
      simp at e1
      obtain ⟨rfl, rfl⟩ := e1
      have hasc := asc_at HASC.out hlt (show j < k by omega)
      have hjw : IntKind.i64.wrap ((k : Int) - 1) = (j : Int) := by rw [show (k : Int) - 1 = (j : Int) by omega, IntKind.wrap_i64]; omega
      have hj0 : (0 : Int) <= (j : Int) := by omega
      have hj1 : (j : Int) < (its.length : Int) := by omega
      have hk2 : (k : Int) < (its.length : Int) := by omega
      generalize its.getD j default = X at *
      generalize its.getD k default = Y at *
      have HCM : Hid (∀ d os, Calls Tryz.prog 47 #[.agg #[.int .i64 X.a, .int .i64 X.b, .int .i64 X.c], .agg #[.int .i64 Y.a, .int .i64 Y.b, .int .i64 Y.c]] (grow (redrawn wr d) os) fun e w'' => e = .returned (.int .i64 (cmp3 (tI X.a X.b X.c) (tI Y.a Y.b Y.c) 3)) /\ ∃ p : Regrown, w'' = grow (redrawn wr p.d) p.os) := fun d os => Calls.regrown_of (cmpw_any _ _ _ _ _ _ _)
      have HAS := Lib.hid hasc
      clear hbr hj hasc
      go_upto_region 21 with fail
      go_cut [112] from 66 to 112 (fun c wx => c = .bool false /\ Below wr.heap.size wr wx)
      case first =>
       by_cases hnm : X.name = Y.name
       ·have hc3 : ¬ cmp3 (tI X.a X.b X.c) (tI Y.a Y.b Y.c) 3 <= 0 := by
         have h1 := HAS.out
         unfold ctCmp at h1
         rw [if_pos (by rw [hnm])] at h1
         rw [cmp3_anti] at h1
         omega
        have e1 : (X.name.toList == Y.name.toList) = true := by rw [hnm]; simp
        have e2 : Op.bytesLess X.name.toList Y.name.toList = false := by
         rw [less_names, hnm]
         refine decide_eq_false ?_
         have := cb_anti Y.name.data.toList Y.name.data.toList
         omega
        clear hnm HAS
        have kx0 := cell_regrown x0
        have kx1 := cell_regrown x1
        have kx2 := cell_regrown x2
        have kx3 := cell_regrown x3
        have ky0 := cell_regrown y0
        have ky1 := cell_regrown y1
        have ky2 := cell_regrown y2
        have ky3 := cell_regrown y3
        clear x0 x1 x2 x3 y0 y1 y2 y3
        generalize cmp3 (tI X.a X.b X.c) (tI Y.a Y.b Y.c) 3 = CM at *
        refine wp_region_quiet_below mixedP (by kernel_rfl) ?_
        repeat (quiet_step (first | (go_at_call 47; exact HCM.out _ _)))
        refine wpQuiet_nil ?_
        intro _ hw'
        obtain ⟨⟨dq, osq⟩, hw''⟩ := hw'
        subst hw''
        have hbq := Lib.hid (below_regrown wr dq osq)
        clear kx0 kx1 kx2 kx3 ky0 ky1 ky2 ky3 HCM
        generalize grow (redrawn wr dq) osq = wq at *
        go_wp2
        go_meet
        case rel => exact ⟨rfl, hbq.out⟩
       ·have e1 : (X.name.toList == Y.name.toList) = false := by rw [beq_eq_false_iff_ne]; exact fun e => hnm (bytes_eq e)
        have e2 : Op.bytesLess X.name.toList Y.name.toList = true := by
         rw [less_names]
         refine decide_eq_true ?_
         rcases cmp_names HAS.out with h | h
         ·exact absurd h hnm
         ·exact h
        clear hnm HAS HCM
        go_quiet (fail)
        go_wp2
        go_meet
        case rel => exact ⟨rfl, below_drewN (Below.refl _ _) _⟩
      case rest =>
       obtain ⟨rfl, hbc⟩ := hcut
       have HBC : Hid (Below w8.heap.size w8 wc) := HBR.out.trans (hbc.mono HBR.out.size)
       clear hbc HBR HB9 HCM HAS x0 x1 x2 x3 y0 y1 y2 y3
       go_wp2
       go_roundw
       case rel => exact ⟨k + 1, by omega, by omega, by go_num, HBC.out⟩
       case measure => simp [intOf]; omega
     ·have hni : ¬ (k : Int) < (its.length : Int) := by omega
      clear hbr
      go_wp2
      go_ret
      exact ⟨rfl, HB9.out⟩
theorem cback_any (s : ByteArray) (w : World) (hw : Lw w) : Calls Tryz.prog 9 #[.string s] w fun r w' => r = .returned (.bool true) /\ Below w.heap.size w w' := by
 by_cases h : 1500 < s.size
 ·exact cback_skip s w h
 ·cases hx : parseF s with
  | ok r => exact cback_ok s w hw h r.1 r.2 hx
  | error e => exact cback_err s w hw h e.1 e.2 hx
end Go.Proofs.YtmhophccdfmngaaGreatDoor
namespace Go.Proofs.YtmhophccdfmngaaGreatDoor
open Go.ChangeShapes Go.WideShapes Go.ChangeAt Go.RowKit
theorem own : ownKnob Tryz.prog.godebug = none := by kernel_rfl
theorem gErr : Tryz.prog.globalNamed "errors.errorType" = some 3 := by kernel_rfl
theorem rtypeIs : (Tryz.prog.cutTypes.find? (·.1 == "internal/reflectlite.rtype")).map (·.2) = some 262 := by kernel_rfl
theorem oneRow : ((List.range 341).filter fun t => Tryz.prog.rowNamed t [101, 114, 114, 111, 114]) = [33] := by kernel_rfl
theorem typesSize : Tryz.prog.types.size = 341 := by kernel_rfl
theorem glob_of {W : World} {l : List (String × DataW Unit)} (h : laidMetH Tryz.prog l W) (hk : (l.filter fun x => x.1 == "errors.errorType") = [("errors.errorType", Rows.laid_errors_errorType)]) : Glob W := by
 have h2 := h.filter fun x => x.1 == "errors.errorType"
 rw [hk] at h2
 have h3 : laidMet Tryz.prog [] W /\ handlesMet Tryz.prog [("errors.errorType", Rows.laid_errors_errorType)] W := h2
 obtain ⟨name, u, ty, e1, e2, e3, e4, e5⟩ := h3.2 _ (List.mem_singleton.2 rfl)
 have en : name = [101, 114, 114, 111, 114] := (Option.some.inj e1).symm
 subst en
 obtain rfl := Option.some.inj (rtypeIs.symm.trans e2)
 have hm : ty ∈ (List.range 341).filter fun t => Tryz.prog.rowNamed t [101, 114, 114, 111, 114] := List.mem_filter.2 ⟨List.mem_range.2 (by rw [<- typesSize]; exact e3), e4⟩
 rw [oneRow] at hm
 obtain rfl := List.mem_singleton.1 hm
 have hh : typeHandle Tryz.prog 33 = .pointer (some ⟨12, 33, none⟩) := by kernel_rfl
 rw [hh] at e5
 have h6 := World.var?_cell gErr e5 0
 unfold Glob; simpa using h6
def refill (cs : Array Value) : Obj -> Obj
 | .cells _ t frozen => .cells cs t frozen
 | o => o
end Go.Proofs.YtmhophccdfmngaaGreatDoor
namespace Go.Proofs.YtmhophccdfmngaaGreatDoor
open Go.ChangeShapes Go.WideShapes Go.ChangeAt Go.RowKit Go.Shelf
theorem gTab : Tryz.prog.globalNamed "internal/strconv.uint64pow10" = some 9 := by kernel_rfl
theorem gTabType : (Tryz.prog.globals[9]?).map (·.type) = some 308 := by kernel_rfl
theorem cellsTab : Tryz.prog.cellsOf 308 = 20 := by kernel_rfl
theorem cellsTabE : Tryz.prog.cellsOf 260 = 1 := by kernel_rfl
theorem gSyn : Tryz.prog.globalNamed "strconv.ErrSyntax" = some 7 := by kernel_rfl
theorem gSynType : (Tryz.prog.globals[7]?).map (·.type) = some 33 := by kernel_rfl
theorem gRng : Tryz.prog.globalNamed "strconv.ErrRange" = some 8 := by kernel_rfl
theorem gRngType : (Tryz.prog.globals[8]?).map (·.type) = some 33 := by kernel_rfl
theorem cellsEs : Tryz.prog.cellsOf 312 = 1 := by kernel_rfl
theorem cellsStr : Tryz.prog.cellsOf 9 = 1 := by kernel_rfl
theorem starEs : "*" ++ "errors.errorString" = "*errors.errorString" := by decide
theorem rowEs (u : TypeId) (h : Tryz.prog.typeName? 3 u = some "*errors.errorString") : u = 310 :=
 typeName_ptr_named (nm := "errors.errorString") (by rw [starEs]; kernel_rfl) (by kernel_rfl) (by decide) u (by rw [starEs]; exact h)
theorem tab_of {W : World} {l : List (String × DataW Unit)} (h : laidMetH Tryz.prog l W) (hk : (l.filter fun x => x.1 == "internal/strconv.uint64pow10") = [("internal/strconv.uint64pow10", Lib.tabData .u64 Lib.pow10Tab)]) : Lib.TabIs Tryz.prog W "internal/strconv.uint64pow10" .u64 Lib.pow10Tab := by
 have h2 := h.filter fun x => x.1 == "internal/strconv.uint64pow10"
 rw [hk] at h2
 have h3 : laidMet Tryz.prog [("internal/strconv.uint64pow10", Lib.tabData .u64 Lib.pow10Tab)] W := h2
 exact Lib.tabIs_of_head (rest := []) gTab gTabType Tryz.underlying308 Tryz.underlying260 cellsTabE cellsTab h3
theorem syn_of {W : World} {l : List (String × DataW Unit)} (h : laidMetH Tryz.prog l W) (hk : (l.filter fun x => x.1 == "strconv.ErrSyntax") = [("strconv.ErrSyntax", Rows.laid_strconv_ErrSyntax)]) : ∃ ev, W.cell? ⟨7, 0, none⟩ = some ev /\ (ev = .nilIface \/ ∃ te pe, ev = .iface te pe) := by
 have h2 := h.filter fun x => x.1 == "strconv.ErrSyntax"
 rw [hk] at h2
 have h3 : laidMet Tryz.prog [("strconv.ErrSyntax", Rows.laid_strconv_ErrSyntax)] W := h2
 obtain ⟨a0, s0, hv0, -, -, -⟩ := laid_sentinel h3 gSyn gSynType Tryz.underlying33 rowEs Tryz.underlying310 Tryz.underlying312 rfl rfl Tryz.underlying9 cellsEs cellsStr
 exact ⟨_, by have h0 := World.var?_cell gSyn hv0 0; simpa using h0, .inr ⟨_, _, rfl⟩⟩
theorem rng_of {W : World} {l : List (String × DataW Unit)} (h : laidMetH Tryz.prog l W) (hk : (l.filter fun x => x.1 == "strconv.ErrRange") = [("strconv.ErrRange", Rows.laid_strconv_ErrRange)]) : ∃ ev, W.cell? ⟨8, 0, none⟩ = some ev /\ (ev = .nilIface \/ ∃ te pe, ev = .iface te pe) := by
 have h2 := h.filter fun x => x.1 == "strconv.ErrRange"
 rw [hk] at h2
 have h3 : laidMet Tryz.prog [("strconv.ErrRange", Rows.laid_strconv_ErrRange)] W := h2
 obtain ⟨a0, s0, hv0, -, -, -⟩ := laid_sentinel h3 gRng gRngType Tryz.underlying33 rowEs Tryz.underlying310 Tryz.underlying312 rfl rfl Tryz.underlying9 cellsEs cellsStr
 exact ⟨_, by have h0 := World.var?_cell gRng hv0 0; simpa using h0, .inr ⟨_, _, rfl⟩⟩
theorem ml_of {W : World} (h : W.ShapedOpen Tryz.prog) : ∃ n, W.cell? ⟨4, 0, none⟩ = some (.int .i64 n) :=
 cell_of_shapedOpen_int (zero := #[.int .i64 0]) (t := 3) h (of_decide_eq_true (by kernel_rfl)) (by kernel_rfl) rfl (by kernel_rfl) (by kernel_rfl) Tryz.underlying3
theorem big_of {W : World} (h : W.ShapedOpen Tryz.prog) : 12 <= W.heap.size := by
 obtain ⟨o, _, ho, _⟩ := h.2 12 (of_decide_eq_true (by kernel_rfl)) (of_decide_eq_true (by kernel_rfl))
 have := (Array.getElem?_eq_some_iff.1 ho).1
 omega
theorem lb_of {W : World} {l : List (String × DataW Unit)} (h : laidMetH Tryz.prog l W) (hs : W.ShapedOpen Tryz.prog)
  (k1 : (l.filter fun x => x.1 == "internal/strconv.uint64pow10") = [("internal/strconv.uint64pow10", Lib.tabData .u64 Lib.pow10Tab)])
  (k2 : (l.filter fun x => x.1 == "strconv.ErrSyntax") = [("strconv.ErrSyntax", Rows.laid_strconv_ErrSyntax)])
  (k3 : (l.filter fun x => x.1 == "strconv.ErrRange") = [("strconv.ErrRange", Rows.laid_strconv_ErrRange)])
  (k4 : (l.filter fun x => x.1 == "errors.errorType") = [("errors.errorType", Rows.laid_errors_errorType)]) : Lb W :=
 ⟨ml_of hs, syn_of h k2, rng_of h k3, tab_of h k1, glob_of h k4, big_of hs⟩
def cellsIn1 : DataW Unit -> List Value
 | .lit (.int k z) => [.int k z]
 | _ => [undef]
def cellsIn2 : DataW Unit -> List Value
 | .agg l => l.flatMap cellsIn1
 | d => cellsIn1 d
def cellsIn : DataW Unit -> Array Value
 | .agg l => (l.flatMap cellsIn2).toArray
 | _ => #[]
end Go.Proofs.YtmhophccdfmngaaGreatDoor
