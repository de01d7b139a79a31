/- The reference's Among. -/
import Derived.Test.YtpmpnbbihmgdpaaGreatDoorRlNum
import Derived.Test.YtpmpnbbihmgdpaaGreatDoorSvRHas
import Derived.Test.YtpmpnbbihmgdpaaGreatDoorCtRu
import Derived.Test.YtpmpnbbihmgdpaaGreatDoorPlAmong
set_option maxHeartbeats 4000000
set_option maxRecDepth 100000
namespace Go.Proofs.YtpmpnbbihmgdpaaGreatDoor
open Go.RowKit Go.Deep Sv
theorem hasB_F {l : List Span} (hl : Rg l) (x : It) : (hasB l x.a x.b x.c = true /\ hasF l x) \/ (hasB l x.a x.b x.c = false /\ ¬ hasF l x) := by
 unfold hasB hasF InV
 by_cases h : (0 <= x.a /\ x.a <= 999) /\ (0 <= x.b /\ x.b <= 999) /\ 0 <= x.c /\ x.c <= 999
 ·rw [if_pos (by simp [okP, h])]
  by_cases hm : mem l (numV x.a.toNat x.b.toNat x.c.toNat)
  ·exact Or.inl ⟨(tp_in hl).2 hm, h, hm⟩
  ·refine Or.inr ⟨?_, fun e => hm e.2⟩
   rw [Bool.eq_false_iff]
   exact fun e => hm ((tp_in hl).1 e)
 ·exact Or.inr ⟨if_neg (by simp [okP]; omega), fun e => h e.1⟩
open Classical in
noncomputable def ramP (its : List It) (name : ByteArray) (rng : List Span) (k : Nat) : List Nat := (List.range k).filter fun i => decide ((its.getD i default).name = name /\ hasF rng (its.getD i default))
theorem ramP_yes {its : List It} {name : ByteArray} {rng : List Span} {k : Nat} (h1 : (its.getD k default).name = name) (h2 : hasF rng (its.getD k default)) : ramP its name rng (k + 1) = ramP its name rng k ++ [k] := by
 unfold ramP
 rw [List.range_succ, List.filter_append]
 congr 1
 rw [List.filter_cons, if_pos (by simpa using ⟨h1, h2⟩), List.filter_nil]
theorem ramP_no {its : List It} {name : ByteArray} {rng : List Span} {k : Nat} (h : ¬ ((its.getD k default).name = name /\ hasF rng (its.getD k default))) : ramP its name rng (k + 1) = ramP its name rng k := by
 unfold ramP
 rw [List.range_succ, List.filter_append, List.filter_cons, if_neg (by simpa using h), List.filter_nil, List.append_nil]
theorem ramP_len (its : List It) (name : ByteArray) (rng : List Span) (k : Nat) : (ramP its name rng k).length <= k := by
 unfold ramP
 exact Nat.le_trans (List.length_filter_le _ _) (by simp)
theorem ramP_among {its : List It} (h : Asc its) (name : ByteArray) (rng : List Span) : ramP its name rng its.length = amongF its name rng := by
 unfold ramP amongF
 refine filter_range _ _ _ (row_end its name) fun i hi => ?_
 simp only [decide_eq_true_eq]
 rw [row_iff h name i hi]
theorem ramong_any (its : List It) (name : ByteArray) (rng : List Span) (hr : Rg rng) (iv rv : Value) (w : World) (h : ItsAt w iv its) (hl : its.length <= 100000) (hv : NsAt w rv (tp rng)) :
  Calls Tryz.prog 81 #[iv, .string name, rv] w fun e w' => ∃ v', e = .returned v' /\ w'.ownsRow w.heap.size 3 1 v' (ramP its name rng its.length).length (icells ((ramP its name rng its.length).map fun (k : Nat) => (k : Int))) /\ Below w.heap.size w w' := by
 obtain ⟨va, vc, rfl⟩ := hv.form
 obtain ⟨ia, ic, rfl, -⟩ := h.form
 obtain ⟨i0, hin, hz0, hz1, hz2⟩ := info_parts infoInt
 have HHAS : Hid (∀ W (X : It), Below w.heap.size w W -> Calls Tryz.prog 141 #[.slice va (tp rng).length vc, .agg #[.int .i64 X.a, .int .i64 X.b, .int .i64 X.c]] W fun e w' => e = .returned (.bool (hasB rng X.a X.b X.c)) /\ Below W.heap.size W w') := fun W X hW => rhas_any rng hr _ X.a X.b X.c W (hv.below hW (Nat.le_refl _))
 have HBF := Lib.hid (fun X => hasB_F hr X)
 have HI := Lib.hid h
 have HY := Lib.hid (fun k => @ramP_yes its name rng k)
 have HNO := Lib.hid (fun k => @ramP_no its name rng k)
 have HLE := Lib.hid (ramP_len its name rng)
 have HS0 : Hid (ramP its name rng 0 = []) := by show _ = _; rfl
 clear h hv hr
 generalize ramP its name rng = am at *
 generalize (tp rng).length = tl at *
 go_enter Tryz.func81, Tryz.ntmps81
 go_wp2_with fail
 go_loopw [7, 12] (fun oV iV wr => ∃ (i : Nat), i <= its.length /\ iV = .int .i64 (i : Int) /\ wr.ownsRow w.heap.size 3 1 oV (am i).length (icells ((am i).map fun (k : Nat) => (k : Int))) /\ Below w.heap.size w wr) (fun _ iV _ => its.length - (intOf iV).toNat)
 case atStart => exact ⟨0, Nat.zero_le _, rfl, by rw [HS0.out]; exact World.ownsRow_nil _ _ _ _, Below.refl _ _⟩
 case round =>
  obtain ⟨i, hih, rfl, hrow, hbw⟩ := hrel
  obtain ⟨oa, oc, rfl, -⟩ := (rowAt_own hrow).form
  have HROW := Lib.hid hrow
  have HBW := Lib.hid hbw
  have hale := HLE.out i
  by_cases hlt : i < its.length
  ·obtain ⟨g, cap', e, hg, c0, c1, c2, c3⟩ := (show ItsAt wr (.slice ia its.length ic) its from HI.out.below hbw (Nat.le_refl _)).at i hlt
   simp at e
   obtain ⟨rfl, rfl⟩ := e
   have hii0 : (0 : Int) <= (i : Int) := by omega
   have hii1 : (i : Int) < (its.length : Int) := by omega
   have hY := HY.out i
   have hN := HNO.out i
   generalize its.getD i default = X at *
   have HYI := Lib.hid hY
   have HNI := Lib.hid hN
   have HBX := HBF.out X
   have HHX := Lib.hid (fun W hW => HHAS.out W X hW)
   have hA : Below wr.heap.size wr (wr.alloc (.cells #[.string X.name, .int .i64 X.a, .int .i64 X.b, .int .i64 X.c] 46)) := (Below.refl _ _).alloc (Nat.le_refl _) _
   have HKN := Lib.hid (Blk.new wr 46 #[.string X.name, .int .i64 X.a, .int .i64 X.b, .int .i64 X.c])
   have HR3 := Lib.hid (row_new' hrow hA)
   have HB3 : Hid (Below w.heap.size w (wr.alloc (.cells #[.string X.name, .int .i64 X.a, .int .i64 X.b, .int .i64 X.c] 46))) := hbw.trans (hA.mono hbw.size)
   clear hrow hbw hA hY hN HROW HBW HY HNO HHAS HBF
   go_upto_region 5 with fail
   generalize wr.alloc (.cells #[.string X.name, .int .i64 X.a, .int .i64 X.b, .int .i64 X.c] 46) = W3 at *
   clear c0 c1 c2 c3
   have c0 := HKN.out.cell 0
   have c1 := HKN.out.cell 1
   have c2 := HKN.out.cell 2
   have c3 := HKN.out.cell 3
   by_cases hnm : X.name = name
   ·have hnb : (X.name.toList == name.toList) = true := by rw [hnm]; simp
    rcases HBX with ⟨hbt, hft⟩ | ⟨hbt, hft⟩
    ·have HA : Hid (am (i + 1) = am i ++ [i]) := HYI.out hnm hft
     have HQ : Hid (∀ W, Below w.heap.size w W -> Calls Tryz.prog 141 #[.slice va tl vc, .agg #[.int .i64 X.a, .int .i64 X.b, .int .i64 X.c]] W fun e w' => e = .returned (.bool true) /\ Below W.heap.size W w') := fun W hW => by have := HHX.out W hW; rw [hbt] at this; exact this
     clear HHX hbt hft hnm HYI HNI
     go_wp2_with fail
     refine (HQ.out _ HB3.out).mono ?_
     rintro e x1 ⟨rfl, hb1⟩
     have HROW2 := Lib.hid (row_new' HR3.out hb1)
     have HBX : Hid (Below w.heap.size w x1) := HB3.out.trans (hb1.mono HB3.out.size)
     have hxs := HBX.out.size
     clear hb1 HR3 HB3 HQ c0 c1 c2 c3
     go_wp2_with (at_builtin; refine wpList_append_own_at _ rfl _ _ 31 rfl w.heap.size 3 i0 (.int .i64 0) 1 8 Tryz.underlying31 hin hz0 hz1 hz2 rfl (by decide) _ _ _ rfl (HROW2.out.alloc _) ⟨x1.heap.size, 0, none⟩ 1 1 [.int .i64 (i : Int)] rfl rfl ?c1 ?c2 ?c3 ?c4 ?c5 ?_)
     case c1 => exact cell_lit _ _ _
     case c2 => exact one_lit _
     case c3 => unfold maxLen; omega
     case c4 => omega
     case c5 => simp; omega
     intro v7 w7 hown7 hgrow7 _ hloc7
     have HR7 : Hid (w7.ownsRow w.heap.size 3 1 v7 (am (i + 1)).length (icells ((am (i + 1)).map fun (k : Nat) => (k : Int)))) := by
      show World.ownsRow _ _ _ _ _ _ _
      rw [HA.out, List.map_append, List.map_cons, List.map_nil, icells_snoc, List.length_append]
      exact hown7
     have HB7 : Hid (Below w.heap.size w w7) := (HBX.out.alloc HBX.out.size _).grown hgrow7 (by simp; omega) (fun k hk => (HROW2.out.lt k hk).1)
     clear hown7 hgrow7 hloc7 HROW2 HBX
     go_wp2
     go_roundw
     case rel => exact ⟨i + 1, by omega, by go_num, HR7.out, HB7.out⟩
     case measure => simp [intOf]; omega
    ·have HA : Hid (am (i + 1) = am i) := HNI.out fun e => hft e.2
     have HQ : Hid (∀ W, Below w.heap.size w W -> Calls Tryz.prog 141 #[.slice va tl vc, .agg #[.int .i64 X.a, .int .i64 X.b, .int .i64 X.c]] W fun e w' => e = .returned (.bool false) /\ Below W.heap.size W w') := fun W hW => by have := HHX.out W hW; rw [hbt] at this; exact this
     clear HHX hbt hft hnm HYI HNI
     go_wp2_with fail
     refine (HQ.out _ HB3.out).mono ?_
     rintro e x1 ⟨rfl, hb1⟩
     have HR7 : Hid (x1.ownsRow w.heap.size 3 1 (.slice oa (am i).length oc) (am (i + 1)).length (icells ((am (i + 1)).map fun (k : Nat) => (k : Int)))) := by
      show World.ownsRow _ _ _ _ _ _ _
      rw [HA.out]; exact row_new' HR3.out hb1
     have HBX : Hid (Below w.heap.size w x1) := HB3.out.trans (hb1.mono HB3.out.size)
     clear hb1 HR3 HB3 HQ c0 c1 c2 c3
     go_wp2
     go_roundw
     case rel => exact ⟨i + 1, by omega, by go_num, HR7.out, HBX.out⟩
     case measure => simp [intOf]; omega
   ·have hnb : (X.name.toList == name.toList) = false := by rw [beq_eq_false_iff_ne]; exact fun e => hnm (bytes_eq e)
    have HA : Hid (am (i + 1) = am i) := HNI.out fun e => hnm e.1
    have HR7 : Hid (W3.ownsRow w.heap.size 3 1 (.slice oa (am i).length oc) (am (i + 1)).length (icells ((am (i + 1)).map fun (k : Nat) => (k : Int)))) := by
     show World.ownsRow _ _ _ _ _ _ _
     rw [HA.out]; exact HR3.out
    clear HHX HBX hnm HYI HNI HR3
    go_wp2
    go_roundw
    case rel => exact ⟨i + 1, by omega, by go_num, HR7.out, HB3.out⟩
    case measure => simp [intOf]; omega
  ·have hni : ¬ (i : Int) < (its.length : Int) := by omega
   obtain rfl : i = its.length := by omega
   clear hrow hbw HHAS HBF HY HNO
   go_wp2
   go_ret
   exact ⟨_, rfl, HROW.out, HBW.out⟩
end Go.Proofs.YtpmpnbbihmgdpaaGreatDoor
