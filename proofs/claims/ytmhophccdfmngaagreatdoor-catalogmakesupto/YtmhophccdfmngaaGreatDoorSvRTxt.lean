/- The reference: a range's text. -/
import Derived.Test.YtmhophccdfmngaaGreatDoorSvNs
import Derived.Test.YtmhophccdfmngaaGreatDoorSvRPar
import Derived.Test.YtmhophccdfmngaaGreatDoorSvShelfC
import Derived.Test.YtmhophccdfmngaaGreatDoorSvText
set_option maxHeartbeats 4000000
set_option maxRecDepth 100000
namespace Go.Proofs.YtmhophccdfmngaaGreatDoor
open Go.RowKit Go.Shelf Sv
theorem vers_any (n : Nat) (hn : n <= 1000000000) (w : World) (hw : Lb w) : Calls Tryz.prog 68 #[.int .i64 (n : Int)] w fun e w' => e = .returned (.string ⟨(vnx n).toArray⟩) /\ Below w.heap.size w w' := by
 have E1 : Hid ((n : Int) / 1000000 = ((n / 1000000 : Nat) : Int)) := by show _ = _; omega
 have E2 : Hid ((n : Int) / 1000 % 1000 = ((n / 1000 % 1000 : Nat) : Int)) := by show _ = _; omega
 have E3 : Hid ((n : Int) % 1000 = ((n % 1000 : Nat) : Int)) := by show _ = _; omega
 have H : Hid (Calls Tryz.prog 92 #[.agg #[.int .i64 ((n / 1000000 : Nat) : Int), .int .i64 ((n / 1000 % 1000 : Nat) : Int), .int .i64 ((n % 1000 : Nat) : Int)]] w fun e w' => e = .returned (.string ⟨(vnx n).toArray⟩) /\ Below w.heap.size w w') := rtext_any joinC replC _ _ _ (by omega) (by omega) (by omega) w hw
 clear hw
 go_enter Tryz.func68, Tryz.ntmps68
 go_wp2_with fail
 rw [E1.out, E2.out, E3.out]
 refine H.out.mono ?_
 rintro e w1 ⟨rfl, hb1⟩
 have HB := Lib.hid hb1
 clear hb1
 go_wp2
 go_ret
 exact ⟨rfl, HB.out⟩
theorem tp_at : ∀ (l : List Span) (k : Nat), k < l.length -> nv (tp l) (2 * k) = (sp l k).1 /\ nv (tp l) (2 * k + 1) = (sp l k).2
 | [], k, h => by simp at h
 | s :: l, 0, _ => by simp [tp, nv, sp]
 | s :: l, k + 1, h => by
  have ih := tp_at l k (by simpa using h)
  rw [sp_cons_succ]
  have e : ∀ j, nv (tp (s :: l)) (j + 2) = nv (tp l) j := fun j => by simp [tp, nv]
  rw [show 2 * (k + 1) = 2 * k + 2 by omega, show 2 * k + 2 + 1 = (2 * k + 1) + 2 by omega, e, e]
  exact ih
def stcells (l : List Span) : List Value := l.map fun s => .string ⟨(spanT s).toArray⟩
theorem stcells_snoc (l : List Span) (k : Nat) (hk : k < l.length) : stcells (l.take (k + 1)) = stcells (l.take k) ++ [.string ⟨(spanT (sp l k)).toArray⟩] := by
 unfold stcells
 rw [List.take_succ_eq_append_getElem hk, List.map_append, sp_at l k hk]; rfl
theorem infoStrR : (Tryz.prog.info? 9).map (fun i => (i.zero, i.size, i.bytes)) = some (some (.string ⟨#[]⟩), 1, 16) := by kernel_rfl
theorem rjoin (l : List Span) (B : Nat) (v : Value) (W : World) (hl : Rg l) (hw : l ≠ []) (h : W.ownsRow B 9 1 v l.length (stcells l)) : Calls Tryz.prog 69 #[v, .string ⟨#[32, 124, 124, 32]⟩] W fun e w' => e = .returned (.string ⟨(rgT l).toArray⟩) /\ Below W.heap.size W w' := by
 rcases h.2 with ⟨_, h0⟩ | ⟨g, cap, cur, rfl, hB, hg, hn, hm, hsz, htk⟩
 ·exact absurd (List.length_eq_zero_iff.1 h0) hw
 have hlen : (l.map fun s => (⟨(spanT s).toArray⟩ : ByteArray)).length = l.length := by simp
 have hj : (l.map fun s => (⟨(spanT s).toArray⟩ : ByteArray)).map (·.data.toList) = l.map spanT := by rw [List.map_map]; rfl
 have hll := rg_len hl
 have hwl := wrT_len hl l.length
 rw [List.take_length] at hwl
 have := Tryz.strings_Join g 0 cap (l.map fun s => (⟨(spanT s).toArray⟩ : ByteArray)) ⟨#[32, 124, 124, 32]⟩ W (fun j x hx => by
  have hjl : j < l.length := by have := (List.getElem?_eq_some_iff.1 hx).1; rw [hlen] at this; exact this
  rw [Nat.zero_add, (show Blk W g 9 cur from hg).cell j, <- Array.getElem?_toList, show cur.toList[j]? = (cur.toList.take (l.length * 1))[j]? by rw [List.getElem?_take, if_pos (by omega)], htk]
  unfold stcells
  rw [List.getElem?_map] at hx ⊢
  rw [List.getElem?_eq_getElem hjl] at hx ⊢
  simp at hx ⊢
  exact hx) ((show Blk W g 9 cur from hg).lt) (by rw [hlen]; omega) (by rw [hlen]; exact hn) (by rw [hj]; exact Nat.le_trans hwl (by omega))
 rw [hlen, hj] at this
 refine this.mono fun e w' ⟨he, hb⟩ => ⟨?_, hb⟩
 rw [he]
 unfold rgT
 rw [if_neg hw]
 rfl
theorem rgtext_any (l : List Span) (hl : Rg l) (v : Value) (w : World) (hw : Lb w) (hv : NsAt w v (tp l)) :
  Calls Tryz.prog 17 #[v] w fun e w' => e = .returned (.string ⟨(rgT l).toArray⟩) /\ Below w.heap.size w w' := by
 obtain ⟨i0, hin, hz0, hz1, hz2⟩ := info_parts infoStrR
 obtain ⟨a, cap, rfl⟩ := hv.form
 have hlen := rg_len hl
 have htl : (tp l).length = l.length * 2 := tp_len l
 have HV := Lib.hid hv
 have HW := Lib.hid hw
 clear hv hw
 by_cases hz : l = []
 ·have hR : rgT l = [110, 111, 110, 101] := if_pos hz
  have hl0 : (((tp l).length : Int) == 0) = true := by rw [htl, hz]; rfl
  clear hz htl
  go_enter Tryz.func17, Tryz.ntmps17
  go_wp2
  go_ret
  exact ⟨by rw [hR]; rfl, Below.refl _ _⟩
 ·have hl0 : (((tp l).length : Int) == 0) = false := by
   rw [beq_eq_false_iff_ne, htl]
   have : l.length ≠ 0 := fun e => hz (List.length_eq_zero_iff.1 e)
   omega
  have HJ := Lib.hid (fun v W h => rjoin l w.heap.size v W hl hz h)
  have HAT := Lib.hid (canon_at hl)
  have HTP := Lib.hid (tp_at l)
  have HSN := Lib.hid (stcells_snoc l)
  have HTL := Lib.hid htl
  clear hz
  generalize rgT l = RT at *
  obtain ⟨TL, hTL⟩ : ∃ TL, (tp l).length = TL := ⟨_, rfl⟩
  rw [hTL] at hl0 HTL HV ⊢
  have hTB : TL <= 1000000000 := by rw [HTL.out]; omega
  clear htl
  go_enter Tryz.func17, Tryz.ntmps17
  go_wp2_with fail
  go_loopw [3, 4] (fun sV iV wr => ∃ (k : Nat), k <= l.length /\ iV = .int .i64 ((2 * k : Nat) : Int) /\ wr.ownsRow w.heap.size 9 1 sV (l.take k).length (stcells (l.take k)) /\ Below w.heap.size w wr) (fun _ iV _ => TL - (intOf iV).toNat)
  case atStart => exact ⟨0, Nat.zero_le _, rfl, World.ownsRow_nil _ _ _ _, Below.refl _ _⟩
  case round =>
   obtain ⟨k, hk, rfl, hrow, hbr⟩ := hrel
   obtain ⟨ra, rc, rfl⟩ := nsrow_form hrow
   have htk : (l.take k).length = k := by rw [List.length_take]; omega
   rw [htk] at hrow ⊢
   have HROW := Lib.hid hrow
   have HBR := Lib.hid hbr
   have hwz := hbr.size
   clear hrow hbr htk
   by_cases hlt : k < l.length
   ·have hTk : 2 * k + 1 < TL := by rw [HTL.out]; omega
    have hv2 := HV.out.below HBR.out (Nat.le_refl _)
    rw [<- hTL] at hv2
    obtain ⟨g, cap', e1, hg, cx⟩ := hv2.cells (2 * k) (by rw [hTL]; omega)
    obtain ⟨g', cap'', e2, hg', cy⟩ := hv2.cells (2 * k + 1) (by rw [hTL]; omega)
    rw [(HTP.out k hlt).1] at cx
    rw [(HTP.out k hlt).2] at cy
    rw [hTL] at e1 e2
    rw [e1] at e2
    simp at e1 e2
    obtain ⟨rfl, rfl⟩ := e1
    obtain ⟨rfl, -⟩ := e2
    obtain ⟨hxy, hyA⟩ := HAT.out k hlt
    have hsn := HSN.out k hlt
    have HSX : Hid (spanT (sp l k) = if (sp l k).2 = (sp l k).1 + 1 then vnx (sp l k).1 else if (sp l k).1 = 0 /\ (sp l k).2 = ALL then [97, 110, 121] else if (sp l k).2 = ALL then 62 :: 61 :: vnx (sp l k).1 else if (sp l k).1 = 0 then 60 :: vnx (sp l k).2 else 62 :: 61 :: (vnx (sp l k).1 ++ 32 :: 60 :: vnx (sp l k).2)) := rfl
    have HSN1 := Lib.hid hsn
    clear hsn hv2 hg'
    generalize spanT (sp l k) = ST at *
    generalize (sp l k).1 = x at *
    generalize (sp l k).2 = y at *
    have hyA' : y <= 1000000000 := hyA
    have HVX : Hid (∀ W, Below w.heap.size w W -> Calls Tryz.prog 68 #[.int .i64 (x : Int)] W fun e w' => e = .returned (.string ⟨(vnx x).toArray⟩) /\ Below W.heap.size W w') := fun W hb => vers_any x (by omega) W (HW.out.below hb)
    have HVY : Hid (∀ W, Below w.heap.size w W -> Calls Tryz.prog 68 #[.int .i64 ((y % 1000000000 : Nat) : Int)] W fun e w' => e = .returned (.string ⟨(vnx (y % 1000000000)).toArray⟩) /\ Below W.heap.size W w') := fun W hb => vers_any (y % 1000000000) (by omega) W (HW.out.below hb)
    have hmod : (y : Int) % 1000000000 = ((y % 1000000000 : Nat) : Int) := by omega
    have HYM : Hid (y ≠ ALL -> vnx (y % 1000000000) = vnx y) := fun h => by rw [Nat.mod_eq_of_lt (by unfold ALL at h; omega)]
    have HLX := vnx_len (n := x) (by unfold ALL; omega)
    have HLY := vnx_len (n := y % 1000000000) (by unfold ALL; omega)
    have hd : wr.drew.cell? ⟨g, 2 * k, none⟩ = some (.int .i64 (x : Int)) := cx
    have hd2 : wr.drew.cell? ⟨g, 2 * k + 1, none⟩ = some (.int .i64 (y : Int)) := cy
    generalize (y % 1000000000 : Nat) = y' at *
    generalize vnx x = X at *
    generalize vnx y' = Y' at *
    generalize vnx y = Y at *
    obtain ⟨I, hI⟩ : ∃ I, 2 * k = I := ⟨_, rfl⟩
    obtain ⟨I1, hI1⟩ : ∃ I1, I + 1 = I1 := ⟨_, rfl⟩
    rw [hI] at cx cy hd hd2 hTk ⊢
    rw [hI1] at cy hd2 hTk
    have hwr : IntKind.i64.wrap ((I : Int) + 1) = (I1 : Int) := by rw [IntKind.wrap_i64]; omega
    have hi1 : I1 < TL := hTk
    have HI2 : Hid ((I : Int) + 2 = ((2 * (k + 1) : Nat) : Int)) := by show _ = _; omega
    have HM2 : Hid (I < 2 * (k + 1) /\ 2 * (k + 1) <= TL) := ⟨by omega, by rw [HTL.out]; omega⟩
    have hTI : I < TL := by omega
    clear hI hI1
    go_wp2_with fail
    go_big_region
    have HBD : Hid (Below w.heap.size w wr.drew) := HBR.out.drew
    have HRD : Hid (wr.drew.ownsRow w.heap.size 9 1 (.slice ra k rc) k (stcells (l.take k))) := nsrow_below HROW.out (Below.refl wr.heap.size wr).drew (Nat.le_refl _)
    clear cx cy hd hd2 hwr HROW HBR hwz
    generalize wr.drew = W9 at *
    by_cases he : y = ALL
    ·by_cases hz9 : x = 0
     ·by_cases ho : y = x + 1
      ·exact absurd he (by unfold ALL; omega)
      ·have hST : ST = [97, 110, 121] := by rw [HSX.out, if_neg ho, if_pos ⟨hz9, he⟩]
       have ee : ((y : Int) == 1000000000) = true := by rw [beq_iff_eq]; unfold ALL at he; omega
       have ez : ((x : Int) == 0) = true := by rw [beq_iff_eq]; omega
       have eo : ((y : Int) == (x : Int) + 1) = false := by rw [beq_eq_false_iff_ne]; omega
       have hSB : (⟨#[97, 110, 121]⟩ : ByteArray) = ⟨ST.toArray⟩ := by subst hST; exact rfl
       have HSB := Lib.hid hSB
       clear he hz9 ho hST HSX HYM hSB
       go_wp2_with fail
       refine (HVX.out _ HBD.out).mono ?_
       rintro e w0 ⟨rfl, hb⟩
       have HBD0 : Hid (Below w.heap.size w w0) := HBD.out.trans (hb.mono HBD.out.size)
       have HRD0 := Lib.hid (nsrow_below HRD.out hb (Nat.le_refl _))
       clear hb HBD HRD
       go_wp2_with fail
       refine (HVY.out _ HBD0.out).mono ?_
       rintro e w1 ⟨rfl, hb⟩
       have HBD1 : Hid (Below w.heap.size w w1) := HBD0.out.trans (hb.mono HBD0.out.size)
       have HRD1 := Lib.hid (nsrow_below HRD0.out hb (Nat.le_refl _))
       clear hb HBD0 HRD0
       go_wp2_with fail
       refine (HVX.out _ HBD1.out).mono ?_
       rintro e w2 ⟨rfl, hb⟩
       have HBD2 : Hid (Below w.heap.size w w2) := HBD1.out.trans (hb.mono HBD1.out.size)
       have HRD2 := Lib.hid (nsrow_below HRD1.out hb (Nat.le_refl _))
       clear hb HBD1 HRD1
       go_wp2_with fail
       refine (HVY.out _ HBD2.out).mono ?_
       rintro e w3 ⟨rfl, hb⟩
       have HBD3 : Hid (Below w.heap.size w w3) := HBD2.out.trans (hb.mono HBD2.out.size)
       have HRD3 := Lib.hid (nsrow_below HRD2.out hb (Nat.le_refl _))
       clear hb HBD2 HRD2
       have hwl := HBD3.out.size
       go_wp2_with (at_builtin; refine wpList_append_own _ rfl _ _ 111 rfl w.heap.size 9 i0 (.string ⟨#[]⟩) 1 16 Tryz.underlying111 hin hz0 hz1 hz2 rfl (by decide) _ _ _ rfl (HRD3.out.alloc _) ⟨w3.heap.size, 0, none⟩ 1 1 [_] rfl rfl (cell_one_newN _ _ _) ?d2 ?d3 ?d4 ?d5 ?_)
       case d2 => first | rfl | (intro u hu; simp at hu; subst hu; rfl)
       case d3 => unfold maxLen; omega
       case d4 => omega
       case d5 => first | omega | (simp; omega)
       intro v' w8 hown hgrow _
       have hb8 : Below w.heap.size w w8 := (HBD3.out.alloc hwl _).grown hgrow (by simp; omega) (fun j hj => (HRD3.out.lt j hj).1)
       rw [HSB.out, <- HSN1.out] at hown
       have HO := Lib.hid hown
       have HB8 := Lib.hid hb8
       clear hown hgrow hb8 HBD3 HRD3
       go_wp2
       go_roundw
       case rel => exact ⟨k + 1, by omega, congrArg (Value.int .i64) HI2.out, by rw [List.length_take, show min (k + 1) l.length = k + 1 by omega]; exact HO.out, HB8.out⟩
       case measure => have := HM2.out; simp [intOf]; omega
     ·by_cases ho : y = x + 1
      ·have hST : ST = X := by rw [HSX.out, if_pos ho]
       have ee : ((y : Int) == 1000000000) = true := by rw [beq_iff_eq]; unfold ALL at he; omega
       have ez : ((x : Int) == 0) = false := by rw [beq_eq_false_iff_ne]; omega
       have eo : ((y : Int) == (x : Int) + 1) = true := by rw [beq_iff_eq]; omega
       have hSB : (⟨X.toArray⟩ : ByteArray) = ⟨ST.toArray⟩ := by subst hST; exact rfl
       have HSB := Lib.hid hSB
       clear he hz9 ho hST HSX HYM hSB
       go_wp2_with fail
       refine (HVX.out _ HBD.out).mono ?_
       rintro e w0 ⟨rfl, hb⟩
       have HBD0 : Hid (Below w.heap.size w w0) := HBD.out.trans (hb.mono HBD.out.size)
       have HRD0 := Lib.hid (nsrow_below HRD.out hb (Nat.le_refl _))
       clear hb HBD HRD
       go_wp2_with fail
       refine (HVY.out _ HBD0.out).mono ?_
       rintro e w1 ⟨rfl, hb⟩
       have HBD1 : Hid (Below w.heap.size w w1) := HBD0.out.trans (hb.mono HBD0.out.size)
       have HRD1 := Lib.hid (nsrow_below HRD0.out hb (Nat.le_refl _))
       clear hb HBD0 HRD0
       go_wp2_with fail
       refine (HVX.out _ HBD1.out).mono ?_
       rintro e w2 ⟨rfl, hb⟩
       have HBD2 : Hid (Below w.heap.size w w2) := HBD1.out.trans (hb.mono HBD1.out.size)
       have HRD2 := Lib.hid (nsrow_below HRD1.out hb (Nat.le_refl _))
       clear hb HBD1 HRD1
       go_wp2_with fail
       refine (HVX.out _ HBD2.out).mono ?_
       rintro e w3 ⟨rfl, hb⟩
       have HBD3 : Hid (Below w.heap.size w w3) := HBD2.out.trans (hb.mono HBD2.out.size)
       have HRD3 := Lib.hid (nsrow_below HRD2.out hb (Nat.le_refl _))
       clear hb HBD2 HRD2
       have hwl := HBD3.out.size
       go_wp2_with (at_builtin; refine wpList_append_own _ rfl _ _ 111 rfl w.heap.size 9 i0 (.string ⟨#[]⟩) 1 16 Tryz.underlying111 hin hz0 hz1 hz2 rfl (by decide) _ _ _ rfl (HRD3.out.alloc _) ⟨w3.heap.size, 0, none⟩ 1 1 [_] rfl rfl (cell_one_newN _ _ _) ?d2 ?d3 ?d4 ?d5 ?_)
       case d2 => first | rfl | (intro u hu; simp at hu; subst hu; rfl)
       case d3 => unfold maxLen; omega
       case d4 => omega
       case d5 => first | omega | (simp; omega)
       intro v' w8 hown hgrow _
       have hb8 : Below w.heap.size w w8 := (HBD3.out.alloc hwl _).grown hgrow (by simp; omega) (fun j hj => (HRD3.out.lt j hj).1)
       rw [HSB.out, <- HSN1.out] at hown
       have HO := Lib.hid hown
       have HB8 := Lib.hid hb8
       clear hown hgrow hb8 HBD3 HRD3
       go_wp2
       go_roundw
       case rel => exact ⟨k + 1, by omega, congrArg (Value.int .i64) HI2.out, by rw [List.length_take, show min (k + 1) l.length = k + 1 by omega]; exact HO.out, HB8.out⟩
       case measure => have := HM2.out; simp [intOf]; omega
      ·have hST : ST = 62 :: 61 :: X := by rw [HSX.out, if_neg ho, if_neg (fun h => hz9 h.1), if_pos he]
       have ee : ((y : Int) == 1000000000) = true := by rw [beq_iff_eq]; unfold ALL at he; omega
       have ez : ((x : Int) == 0) = false := by rw [beq_eq_false_iff_ne]; omega
       have eo : ((y : Int) == (x : Int) + 1) = false := by rw [beq_eq_false_iff_ne]; omega
       have hSB : ((⟨#[62, 61]⟩ : ByteArray) ++ ⟨X.toArray⟩) = ⟨ST.toArray⟩ := by subst hST; exact app_str [62, 61] X
       have HSB := Lib.hid hSB
       clear he hz9 ho hST HSX HYM hSB
       go_wp2_with fail
       refine (HVX.out _ HBD.out).mono ?_
       rintro e w0 ⟨rfl, hb⟩
       have HBD0 : Hid (Below w.heap.size w w0) := HBD.out.trans (hb.mono HBD.out.size)
       have HRD0 := Lib.hid (nsrow_below HRD.out hb (Nat.le_refl _))
       clear hb HBD HRD
       go_wp2_with fail
       refine (HVY.out _ HBD0.out).mono ?_
       rintro e w1 ⟨rfl, hb⟩
       have HBD1 : Hid (Below w.heap.size w w1) := HBD0.out.trans (hb.mono HBD0.out.size)
       have HRD1 := Lib.hid (nsrow_below HRD0.out hb (Nat.le_refl _))
       clear hb HBD0 HRD0
       go_wp2_with fail
       refine (HVX.out _ HBD1.out).mono ?_
       rintro e w2 ⟨rfl, hb⟩
       have HBD2 : Hid (Below w.heap.size w w2) := HBD1.out.trans (hb.mono HBD1.out.size)
       have HRD2 := Lib.hid (nsrow_below HRD1.out hb (Nat.le_refl _))
       clear hb HBD1 HRD1
       have hwl := HBD2.out.size
       go_wp2_with (at_builtin; refine wpList_append_own _ rfl _ _ 111 rfl w.heap.size 9 i0 (.string ⟨#[]⟩) 1 16 Tryz.underlying111 hin hz0 hz1 hz2 rfl (by decide) _ _ _ rfl (HRD2.out.alloc _) ⟨w2.heap.size, 0, none⟩ 1 1 [_] rfl rfl (cell_one_newN _ _ _) ?d2 ?d3 ?d4 ?d5 ?_)
       case d2 => first | rfl | (intro u hu; simp at hu; subst hu; rfl)
       case d3 => unfold maxLen; omega
       case d4 => omega
       case d5 => first | omega | (simp; omega)
       intro v' w8 hown hgrow _
       have hb8 : Below w.heap.size w w8 := (HBD2.out.alloc hwl _).grown hgrow (by simp; omega) (fun j hj => (HRD2.out.lt j hj).1)
       rw [HSB.out, <- HSN1.out] at hown
       have HO := Lib.hid hown
       have HB8 := Lib.hid hb8
       clear hown hgrow hb8 HBD2 HRD2
       go_wp2
       go_roundw
       case rel => exact ⟨k + 1, by omega, congrArg (Value.int .i64) HI2.out, by rw [List.length_take, show min (k + 1) l.length = k + 1 by omega]; exact HO.out, HB8.out⟩
       case measure => have := HM2.out; simp [intOf]; omega
    ·by_cases hz9 : x = 0
     ·by_cases ho : y = x + 1
      ·have hST : ST = X := by rw [HSX.out, if_pos ho]
       have ee : ((y : Int) == 1000000000) = false := by rw [beq_eq_false_iff_ne]; unfold ALL at he; omega
       have ez : ((x : Int) == 0) = true := by rw [beq_iff_eq]; omega
       have eo : ((y : Int) == (x : Int) + 1) = true := by rw [beq_iff_eq]; omega
       have hSB : (⟨X.toArray⟩ : ByteArray) = ⟨ST.toArray⟩ := by subst hST; exact rfl
       have HSB := Lib.hid hSB
       clear he hz9 ho hST HSX HYM hSB
       go_wp2_with fail
       refine (HVX.out _ HBD.out).mono ?_
       rintro e w0 ⟨rfl, hb⟩
       have HBD0 : Hid (Below w.heap.size w w0) := HBD.out.trans (hb.mono HBD.out.size)
       have HRD0 := Lib.hid (nsrow_below HRD.out hb (Nat.le_refl _))
       clear hb HBD HRD
       go_wp2_with fail
       refine (HVY.out _ HBD0.out).mono ?_
       rintro e w1 ⟨rfl, hb⟩
       have HBD1 : Hid (Below w.heap.size w w1) := HBD0.out.trans (hb.mono HBD0.out.size)
       have HRD1 := Lib.hid (nsrow_below HRD0.out hb (Nat.le_refl _))
       clear hb HBD0 HRD0
       go_wp2_with fail
       refine (HVY.out _ HBD1.out).mono ?_
       rintro e w2 ⟨rfl, hb⟩
       have HBD2 : Hid (Below w.heap.size w w2) := HBD1.out.trans (hb.mono HBD1.out.size)
       have HRD2 := Lib.hid (nsrow_below HRD1.out hb (Nat.le_refl _))
       clear hb HBD1 HRD1
       go_wp2_with fail
       refine (HVX.out _ HBD2.out).mono ?_
       rintro e w3 ⟨rfl, hb⟩
       have HBD3 : Hid (Below w.heap.size w w3) := HBD2.out.trans (hb.mono HBD2.out.size)
       have HRD3 := Lib.hid (nsrow_below HRD2.out hb (Nat.le_refl _))
       clear hb HBD2 HRD2
       have hwl := HBD3.out.size
       go_wp2_with (at_builtin; refine wpList_append_own _ rfl _ _ 111 rfl w.heap.size 9 i0 (.string ⟨#[]⟩) 1 16 Tryz.underlying111 hin hz0 hz1 hz2 rfl (by decide) _ _ _ rfl (HRD3.out.alloc _) ⟨w3.heap.size, 0, none⟩ 1 1 [_] rfl rfl (cell_one_newN _ _ _) ?d2 ?d3 ?d4 ?d5 ?_)
       case d2 => first | rfl | (intro u hu; simp at hu; subst hu; rfl)
       case d3 => unfold maxLen; omega
       case d4 => omega
       case d5 => first | omega | (simp; omega)
       intro v' w8 hown hgrow _
       have hb8 : Below w.heap.size w w8 := (HBD3.out.alloc hwl _).grown hgrow (by simp; omega) (fun j hj => (HRD3.out.lt j hj).1)
       rw [HSB.out, <- HSN1.out] at hown
       have HO := Lib.hid hown
       have HB8 := Lib.hid hb8
       clear hown hgrow hb8 HBD3 HRD3
       go_wp2
       go_roundw
       case rel => exact ⟨k + 1, by omega, congrArg (Value.int .i64) HI2.out, by rw [List.length_take, show min (k + 1) l.length = k + 1 by omega]; exact HO.out, HB8.out⟩
       case measure => have := HM2.out; simp [intOf]; omega
      ·have hST : ST = 60 :: Y' := by rw [HSX.out, if_neg ho, if_neg (fun h => he h.2), if_neg he, if_pos hz9]; rw [HYM.out he]
       have ee : ((y : Int) == 1000000000) = false := by rw [beq_eq_false_iff_ne]; unfold ALL at he; omega
       have ez : ((x : Int) == 0) = true := by rw [beq_iff_eq]; omega
       have eo : ((y : Int) == (x : Int) + 1) = false := by rw [beq_eq_false_iff_ne]; omega
       have hSB : ((⟨#[60]⟩ : ByteArray) ++ ⟨Y'.toArray⟩) = ⟨ST.toArray⟩ := by subst hST; exact app_str [60] Y'
       have HSB := Lib.hid hSB
       clear he hz9 ho hST HSX HYM hSB
       go_wp2_with fail
       refine (HVX.out _ HBD.out).mono ?_
       rintro e w0 ⟨rfl, hb⟩
       have HBD0 : Hid (Below w.heap.size w w0) := HBD.out.trans (hb.mono HBD.out.size)
       have HRD0 := Lib.hid (nsrow_below HRD.out hb (Nat.le_refl _))
       clear hb HBD HRD
       go_wp2_with fail
       refine (HVY.out _ HBD0.out).mono ?_
       rintro e w1 ⟨rfl, hb⟩
       have HBD1 : Hid (Below w.heap.size w w1) := HBD0.out.trans (hb.mono HBD0.out.size)
       have HRD1 := Lib.hid (nsrow_below HRD0.out hb (Nat.le_refl _))
       clear hb HBD0 HRD0
       go_wp2_with fail
       refine (HVY.out _ HBD1.out).mono ?_
       rintro e w2 ⟨rfl, hb⟩
       have HBD2 : Hid (Below w.heap.size w w2) := HBD1.out.trans (hb.mono HBD1.out.size)
       have HRD2 := Lib.hid (nsrow_below HRD1.out hb (Nat.le_refl _))
       clear hb HBD1 HRD1
       have hwl := HBD2.out.size
       go_wp2_with (at_builtin; refine wpList_append_own _ rfl _ _ 111 rfl w.heap.size 9 i0 (.string ⟨#[]⟩) 1 16 Tryz.underlying111 hin hz0 hz1 hz2 rfl (by decide) _ _ _ rfl (HRD2.out.alloc _) ⟨w2.heap.size, 0, none⟩ 1 1 [_] rfl rfl (cell_one_newN _ _ _) ?d2 ?d3 ?d4 ?d5 ?_)
       case d2 => first | rfl | (intro u hu; simp at hu; subst hu; rfl)
       case d3 => unfold maxLen; omega
       case d4 => omega
       case d5 => first | omega | (simp; omega)
       intro v' w8 hown hgrow _
       have hb8 : Below w.heap.size w w8 := (HBD2.out.alloc hwl _).grown hgrow (by simp; omega) (fun j hj => (HRD2.out.lt j hj).1)
       rw [HSB.out, <- HSN1.out] at hown
       have HO := Lib.hid hown
       have HB8 := Lib.hid hb8
       clear hown hgrow hb8 HBD2 HRD2
       go_wp2
       go_roundw
       case rel => exact ⟨k + 1, by omega, congrArg (Value.int .i64) HI2.out, by rw [List.length_take, show min (k + 1) l.length = k + 1 by omega]; exact HO.out, HB8.out⟩
       case measure => have := HM2.out; simp [intOf]; omega
     ·by_cases ho : y = x + 1
      ·have hST : ST = X := by rw [HSX.out, if_pos ho]
       have ee : ((y : Int) == 1000000000) = false := by rw [beq_eq_false_iff_ne]; unfold ALL at he; omega
       have ez : ((x : Int) == 0) = false := by rw [beq_eq_false_iff_ne]; omega
       have eo : ((y : Int) == (x : Int) + 1) = true := by rw [beq_iff_eq]; omega
       have hSB : (⟨X.toArray⟩ : ByteArray) = ⟨ST.toArray⟩ := by subst hST; exact rfl
       have HSB := Lib.hid hSB
       clear he hz9 ho hST HSX HYM hSB
       go_wp2_with fail
       refine (HVX.out _ HBD.out).mono ?_
       rintro e w0 ⟨rfl, hb⟩
       have HBD0 : Hid (Below w.heap.size w w0) := HBD.out.trans (hb.mono HBD.out.size)
       have HRD0 := Lib.hid (nsrow_below HRD.out hb (Nat.le_refl _))
       clear hb HBD HRD
       go_wp2_with fail
       refine (HVY.out _ HBD0.out).mono ?_
       rintro e w1 ⟨rfl, hb⟩
       have HBD1 : Hid (Below w.heap.size w w1) := HBD0.out.trans (hb.mono HBD0.out.size)
       have HRD1 := Lib.hid (nsrow_below HRD0.out hb (Nat.le_refl _))
       clear hb HBD0 HRD0
       go_wp2_with fail
       refine (HVX.out _ HBD1.out).mono ?_
       rintro e w2 ⟨rfl, hb⟩
       have HBD2 : Hid (Below w.heap.size w w2) := HBD1.out.trans (hb.mono HBD1.out.size)
       have HRD2 := Lib.hid (nsrow_below HRD1.out hb (Nat.le_refl _))
       clear hb HBD1 HRD1
       have hwl := HBD2.out.size
       go_wp2_with (at_builtin; refine wpList_append_own _ rfl _ _ 111 rfl w.heap.size 9 i0 (.string ⟨#[]⟩) 1 16 Tryz.underlying111 hin hz0 hz1 hz2 rfl (by decide) _ _ _ rfl (HRD2.out.alloc _) ⟨w2.heap.size, 0, none⟩ 1 1 [_] rfl rfl (cell_one_newN _ _ _) ?d2 ?d3 ?d4 ?d5 ?_)
       case d2 => first | rfl | (intro u hu; simp at hu; subst hu; rfl)
       case d3 => unfold maxLen; omega
       case d4 => omega
       case d5 => first | omega | (simp; omega)
       intro v' w8 hown hgrow _
       have hb8 : Below w.heap.size w w8 := (HBD2.out.alloc hwl _).grown hgrow (by simp; omega) (fun j hj => (HRD2.out.lt j hj).1)
       rw [HSB.out, <- HSN1.out] at hown
       have HO := Lib.hid hown
       have HB8 := Lib.hid hb8
       clear hown hgrow hb8 HBD2 HRD2
       go_wp2
       go_roundw
       case rel => exact ⟨k + 1, by omega, congrArg (Value.int .i64) HI2.out, by rw [List.length_take, show min (k + 1) l.length = k + 1 by omega]; exact HO.out, HB8.out⟩
       case measure => have := HM2.out; simp [intOf]; omega
      ·have hST : ST = 62 :: 61 :: (X ++ 32 :: 60 :: Y') := by rw [HSX.out, if_neg ho, if_neg (fun h => he h.2), if_neg he, if_neg hz9]; rw [HYM.out he]
       have ee : ((y : Int) == 1000000000) = false := by rw [beq_eq_false_iff_ne]; unfold ALL at he; omega
       have ez : ((x : Int) == 0) = false := by rw [beq_eq_false_iff_ne]; omega
       have eo : ((y : Int) == (x : Int) + 1) = false := by rw [beq_eq_false_iff_ne]; omega
       have hSB : ((⟨#[62, 61]⟩ : ByteArray) ++ ⟨X.toArray⟩ ++ ⟨#[32, 60]⟩ ++ ⟨Y'.toArray⟩) = ⟨ST.toArray⟩ := by subst hST; show ((⟨[62, 61].toArray⟩ : ByteArray) ++ ⟨X.toArray⟩ ++ ⟨[32, 60].toArray⟩ ++ ⟨Y'.toArray⟩) = _; rw [app_str, app_str, app_str]; simp
       have HSB := Lib.hid hSB
       clear he hz9 ho hST HSX HYM hSB
       go_wp2_with fail
       refine (HVX.out _ HBD.out).mono ?_
       rintro e w0 ⟨rfl, hb⟩
       have HBD0 : Hid (Below w.heap.size w w0) := HBD.out.trans (hb.mono HBD.out.size)
       have HRD0 := Lib.hid (nsrow_below HRD.out hb (Nat.le_refl _))
       clear hb HBD HRD
       go_wp2_with fail
       refine (HVY.out _ HBD0.out).mono ?_
       rintro e w1 ⟨rfl, hb⟩
       have HBD1 : Hid (Below w.heap.size w w1) := HBD0.out.trans (hb.mono HBD0.out.size)
       have HRD1 := Lib.hid (nsrow_below HRD0.out hb (Nat.le_refl _))
       clear hb HBD0 HRD0
       have hwl := HBD1.out.size
       go_wp2_with (at_builtin; refine wpList_append_own _ rfl _ _ 111 rfl w.heap.size 9 i0 (.string ⟨#[]⟩) 1 16 Tryz.underlying111 hin hz0 hz1 hz2 rfl (by decide) _ _ _ rfl (HRD1.out.alloc _) ⟨w1.heap.size, 0, none⟩ 1 1 [_] rfl rfl (cell_one_newN _ _ _) ?d2 ?d3 ?d4 ?d5 ?_)
       case d2 => first | rfl | (intro u hu; simp at hu; subst hu; rfl)
       case d3 => unfold maxLen; omega
       case d4 => omega
       case d5 => first | omega | (simp; omega)
       intro v' w8 hown hgrow _
       have hb8 : Below w.heap.size w w8 := (HBD1.out.alloc hwl _).grown hgrow (by simp; omega) (fun j hj => (HRD1.out.lt j hj).1)
       rw [HSB.out, <- HSN1.out] at hown
       have HO := Lib.hid hown
       have HB8 := Lib.hid hb8
       clear hown hgrow hb8 HBD1 HRD1
       go_wp2
       go_roundw
       case rel => exact ⟨k + 1, by omega, congrArg (Value.int .i64) HI2.out, by rw [List.length_take, show min (k + 1) l.length = k + 1 by omega]; exact HO.out, HB8.out⟩
       case measure => have := HM2.out; simp [intOf]; omega
   ·obtain rfl : k = l.length := by omega
    have hrow := HROW.out
    rw [List.take_length] at hrow
    have HJN := Lib.hid (HJ.out _ _ hrow)
    have hge : ¬ 2 * l.length < TL := by rw [HTL.out]; omega
    obtain ⟨I, hI⟩ : ∃ I, 2 * l.length = I := ⟨_, rfl⟩
    rw [hI] at hge ⊢
    clear hrow HROW hI
    go_wp2_with fail
    refine HJN.out.mono ?_
    rintro e w3 ⟨rfl, hb3⟩
    have HBZ : Hid (Below w.heap.size w w3) := HBR.out.trans (hb3.mono HBR.out.size)
    clear hb3
    go_wp2
    go_ret
    exact ⟨rfl, HBZ.out⟩
end Go.Proofs.YtmhophccdfmngaaGreatDoor
