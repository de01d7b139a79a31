/- PlanRules: the law's walk. -/
import Derived.Test.YtpmpnbbihmgdpaaGreatDoorCtSmall
import Derived.Test.YtpmpnbbihmgdpaaGreatDoorPlPlanP
import Derived.Test.YtpmpnbbihmgdpaaGreatDoorPlOrder
import Derived.Test.YtpmpnbbihmgdpaaGreatDoorCtParse
import Derived.Test.YtpmpnbbihmgdpaaGreatDoorSvMem
import Derived.Test.YtpmpnbbihmgdpaaGreatDoorPlSmall
import Derived.Test.YtpmpnbbihmgdpaaGreatDoorPlMath
set_option maxHeartbeats 4000000
set_option maxRecDepth 100000
namespace Go.Proofs.YtpmpnbbihmgdpaaGreatDoor
section
open Go.RowKit Go.Deep
theorem same_intsK (xs : List Int) (a1 a2 : Option Addr) (c1 c2 : Nat) (w : World) (h1 : IntsIn w a1 xs) (h2 : IntsIn w a2 xs) (hm : xs.length <= 9223372036854775807) :
  Calls Tryz.prog 68 #[.slice a1 xs.length c1, .slice a2 xs.length c2] w fun e w' => e = .returned (.bool true) /\ Below w.heap.size w w' := by
 have H1 := Lib.hid h1
 have H2 := Lib.hid h2
 clear h1 h2
 have enn : ((xs.length : Int) != (xs.length : Int)) = false := by simp
 go_enter Tryz.func68, Tryz.ntmps68
 go_wp2_with fail
 go_loopw [5] (fun kV wr => ∃ k : Nat, k <= xs.length /\ kV = .int .i64 (k : Int) /\ Below w.heap.size w wr) (fun kV _ => xs.length - (intOf kV).toNat)
 case atStart => exact ⟨0, Nat.zero_le _, rfl, Below.refl _ _⟩
 case round =>
  obtain ⟨k, hk, rfl, hbr⟩ := hrel
  have HBR := Lib.hid hbr
  clear hbr
  by_cases hlt : k < xs.length
  ·obtain ⟨ad1, rfl, hl1, hc1⟩ := H1.out.below HBR.out k hlt
   obtain ⟨ad2, rfl, hl2, hc2⟩ := H2.out.below HBR.out k hlt
   generalize xs.getD k 0 = x at *
   have exx : (x != x) = false := by simp
   have HBN : Hid (∀ q, Below w.heap.size w (wr.drewN q)) := fun q => HBR.out.trans ⟨rfl, rfl, rfl, Nat.le_refl _, fun _ _ => rfl⟩
   go_wp2_with fail
   go_quiet (fail)
   go_wp2
   go_roundw
   case rel => exact ⟨k + 1, hlt, by go_num, HBN.out _⟩
   case measure => simp [intOf]; omega
  ·obtain rfl : k = xs.length := by omega
   go_wp2
   go_ret
   exact ⟨rfl, HBR.out⟩
end
section
open Go.RowKit Go.Deep Sv
theorem lit2_inP (W : World) (x y : Int) : IntsIn (W.alloc (.cells #[.int .i64 x, .int .i64 y] 3)) (some ⟨W.heap.size, 0, none⟩) [x, y] := fun i hi => by
 have hB := Blk.new W 3 #[.int .i64 x, .int .i64 y]
 refine ⟨_, rfl, hB.lt, ?_⟩
 rw [add_plain, Nat.zero_add, hB.cell i]
 match i, hi with
 | 0, _ => rfl
 | 1, _ => rfl
theorem planned_c (w : World) (hw : Lw w) : Calls Tryz.prog 36 #[] w fun e w' => e = .returned (.bool true) /\ Below w.heap.size w w' := by
 have HP0 := parse_any_c plnT w hw
 rw [pln_parse] at HP0
 have HP : Hid (Calls Tryz.prog 42 #[.string plnT] w fun e w' => ∃ bc, e = .returned (.tuple #[.pointer (some ⟨bc, 0, none⟩), .nilIface]) /\ CatAt w' bc plnL plnI /\ Below w.heap.size w w') := by
  refine HP0.mono ?_
  rintro e w' ⟨bc, vs, rfl, q1, -, q3⟩
  exact ⟨bc, rfl, q1.cat, q3⟩
 have HC : Hid (∀ W bc, CatAt W bc plnL plnI -> Calls Tryz.prog 33 #[.pointer (some ⟨bc, 0, none⟩), .int .u64 3] W fun e w' => ∃ a c, e = .returned (.tuple #[.slice a 2 c, .nilIface]) /\ IntsIn w' a [1, 0] /\ Below W.heap.size W w') := fun W bc hcat => by
  have h := order_c bc plnL plnI pln_new 3 W hcat (by decide)
  rw [pln_order3] at h
  refine h.mono ?_
  rintro e w' ⟨v, rfl, hr, hb⟩
  obtain ⟨a, c, rfl, -⟩ := row_form hr
  exact ⟨a, c, rfl, ints_row (B := W.heap.size) (c := c) (l := [1, 0]) hr, hb⟩
 have HE : Hid (∀ W bc, CatAt W bc plnL plnI -> Calls Tryz.prog 33 #[.pointer (some ⟨bc, 0, none⟩), .int .u64 1] W fun e w' => e = .returned (.tuple #[.slice none 0 0, .iface 34 (.int .i64 13)]) /\ Below W.heap.size W w') := fun W bc hcat => by
  have h := order_c bc plnL plnI pln_new 1 W hcat (by decide)
  rw [pln_order1] at h
  exact h
 have HTE : Hid (∀ W, Below w.heap.size w W -> Calls Tryz.prog 28 #[.iface 34 (.int .i64 13)] W fun e w' => e = .returned (.int .i64 13) /\ Below W.heap.size W w') := fun W hb => tell_errno 13 W (hw.below hb).lb.glob
 have hT : plnT = ⟨#[112, 97, 99, 107, 97, 103, 101, 32, 97, 32, 49, 46, 48, 46, 48, 10, 112, 97, 99, 107, 97, 103, 101, 32, 98, 32, 49, 46, 48, 46, 48, 10, 110, 101, 101, 100, 115, 32, 97, 32, 49, 46, 48, 46, 48, 32, 98, 32, 97, 110, 121, 10]⟩ := rfl
 rw [hT] at HP
 clear HP0 hw hT
 go_enter Tryz.func36, Tryz.ntmps36
 go_wp2_with fail
 refine HP.out.mono ?_
 rintro e w1 ⟨bc, rfl, hcat, hb1⟩
 have HC1 := Lib.hid (HC.out w1 bc hcat)
 have HCAT := Lib.hid hcat
 have HB1 := Lib.hid hb1
 clear hcat hb1 HC HP
 go_wp2_with fail
 refine HC1.out.mono ?_
 rintro e w2 ⟨a, c, rfl, hi, hb2⟩
 have HE2 := Lib.hid (HE.out w2 bc (HCAT.out.below hb2 (Nat.le_refl _)))
 have HI2 := Lib.hid hi
 have HB2 := Lib.hid (HB1.out.trans (hb2.mono HB1.out.size))
 clear hi hb2 HC1 HB1 HCAT HE
 go_wp2_with fail
 refine HE2.out.mono ?_
 rintro e w3 ⟨rfl, hb3⟩
 have hbl := below_new w3 (.cells #[.int .i64 1, .int .i64 0] 3)
 have HS := Lib.hid (same_intsK [1, 0] a (some ⟨w3.heap.size, 0, none⟩) c 2 (w3.alloc (.cells #[.int .i64 1, .int .i64 0] 3)) ((HI2.out.below hb3).below hbl) (lit2_inP w3 1 0) (by simp))
 have HB3 := Lib.hid ((HB2.out.trans (hb3.mono HB2.out.size)).trans (hbl.mono (Nat.le_trans HB2.out.size hb3.size)))
 clear hb3 hbl HE2 HB2 HI2
 go_wp2_with fail
 refine HS.out.mono ?_
 rintro e w4 ⟨rfl, hb4⟩
 have HB4 := Lib.hid (HB3.out.trans (hb4.mono HB3.out.size))
 have HT4 := Lib.hid (HTE.out w4 HB4.out)
 clear hb4 HB3 HS HTE
 go_wp2_with fail
 refine HT4.out.mono ?_
 rintro e w5 ⟨rfl, hb5⟩
 have HB5 := Lib.hid (HB4.out.trans (hb5.mono HB4.out.size))
 clear hb5 HB4 HT4
 go_wp2
 go_ret
 exact ⟨rfl, HB5.out⟩
end
section
open Go.RowKit Go.Deep Sv
def ReadRes (w : World) (r : Option (List Ln × List It)) (e : Ending) (w' : World) : Prop :=
 match r with
 | none => e = .returned (.tuple #[.pointer none, .agg #[.int .i64 0, .slice none 0 0, .slice none 0 0], .bool false]) /\ Below w.heap.size w w'
 | some (ls, its) => ∃ bc cv fv, e = .returned (.tuple #[.pointer (some ⟨bc, 0, none⟩), .agg #[.int .i64 (its.length : Int), cv, fv], .bool true]) /\ CatAt w' bc ls its /\ RS w.heap.size w' cv fv ((ofL its ls).map Prod.snd) ((ofL its ls).map Prod.fst) /\ Below w.heap.size w w'
theorem set3 {W : World} {b : Nat} {t : TypeId} {x y z : Value} (h : Blk W b t #[x, y, z]) (p q r : Value) : Blk (((W.setCell ⟨b, 0, none⟩ p).setCell ⟨b, 1, none⟩ q).setCell ⟨b, 2, none⟩ r) b t #[p, q, r] := ((h.set (i := 0)).set (i := 1)).set (i := 2)
theorem below3 {w W : World} (h : Below w.heap.size w W) (p q r : Value) : Below w.heap.size w (((W.setCell ⟨w.heap.size, 0, none⟩ p).setCell ⟨w.heap.size, 1, none⟩ q).setCell ⟨w.heap.size, 2, none⟩ r) :=
 ((h.setCell (p := ⟨w.heap.size, 0, none⟩) (Nat.le_refl _) _).setCell (p := ⟨w.heap.size, 1, none⟩) (Nat.le_refl _) _).setCell (p := ⟨w.heap.size, 2, none⟩) (Nat.le_refl _) _
theorem read_c (s : ByteArray) (most : Nat) (w : World) (hw : Lw w) : Calls Tryz.prog 25 #[.string s, .int .i64 (most : Int)] w (ReadRes w (readF s most)) := by
 obtain ⟨R, hR⟩ : ∃ R, readF s most = R := ⟨_, rfl⟩
 rw [hR]
 have HRF := Lib.hid hR
 have hb0 := below_new w (.cells #[.int .i64 0, .slice none 0 0, .slice none 0 0] 65)
 have k5 := Blk.new w 65 #[.int .i64 0, .slice none 0 0, .slice none 0 0]
 have HPA := Lib.hid (parse_any_c s (w.alloc (.cells #[.int .i64 0, .slice none 0 0, .slice none 0 0] 65)) (hw.below hb0))
 clear hR hw
 have K5 := Lib.hid k5
 have HB0 := Lib.hid hb0
 have hsz : (w.alloc (.cells #[.int .i64 0, .slice none 0 0, .slice none 0 0] 65)).heap.size = w.heap.size + 1 := World.size_alloc _ _
 go_enter Tryz.func25, Tryz.ntmps25
 go_upto_region 1 with fail
 generalize w.alloc (.cells #[.int .i64 0, .slice none 0 0, .slice none 0 0] 65) = W0 at *
 have hzs : (0 : Nat) = 0 := rfl
 by_cases hs : 1500 < s.size
 ·obtain rfl : R = none := by rw [<- HRF.out]; unfold readF; rw [if_pos hs]
  have hsi : (1500 : Int) < (s.size : Int) := by omega
  have f0 := k5.frozen 0
  have f1 := k5.frozen 1
  have f2 := k5.frozen 2
  have c0 : W0.cell? ⟨w.heap.size, 0, none⟩ = some (.int .i64 0) := k5.cell 0
  have c1 : W0.cell? ⟨w.heap.size, 1, none⟩ = some (.slice none 0 0) := k5.cell 1
  have c2 : W0.cell? ⟨w.heap.size, 2, none⟩ = some (.slice none 0 0) := k5.cell 2
  have Q0 := Lib.hid (set3 K5.out (.int .i64 0) (.slice none 0 0) (.slice none 0 0))
  have HB := Lib.hid (below3 HB0.out (.int .i64 0) (.slice none 0 0) (.slice none 0 0))
  clear k5 hb0 HPA
  go_wp2
  generalize ((W0.setCell ⟨w.heap.size, 0, none⟩ (.int .i64 0)).setCell ⟨w.heap.size, 1, none⟩ (.slice none 0 0)).setCell ⟨w.heap.size, 2, none⟩ (.slice none 0 0) = WG at *
  have r0 := Q0.out.cell 0
  have r1 := Q0.out.cell 1
  have r2 := Q0.out.cell 2
  refine bodyPost_ret (v := .tuple #[.pointer none, .agg #[.int .i64 0, .slice none 0 0, .slice none 0 0], .bool false]) (by simp [results, Tryz.f25, go_sem, r0, r1, r2]) rfl ?_
  exact ⟨rfl, HB.out⟩
 ·have hsi : ¬ (1500 : Int) < (s.size : Int) := by omega
  cases hp : parseF s with
  | error e2 =>
   obtain ⟨pk, pp⟩ := e2
   obtain rfl : R = none := by rw [<- HRF.out]; unfold readF; rw [if_neg hs, hp]
   rw [hp] at HPA
   have HP2 : Hid (Calls Tryz.prog 42 #[.string s] W0 fun e w' => ∃ er, e = .returned (.tuple #[.pointer none, er]) /\ ErrP w' er pk pp /\ Below W0.heap.size W0 w') := HPA.out
   clear hp HPA k5 hb0
   go_wp2_with fail
   refine HP2.out.mono ?_
   rintro e w1 ⟨er, rfl, herr, hb1⟩
   obtain ⟨et, ev, rfl⟩ := herr.form
   have hlt : w.heap.size < W0.heap.size := K5.out.lt
   have k5 := K5.out.below hb1 hlt
   have f0 := k5.frozen 0
   have f1 := k5.frozen 1
   have f2 := k5.frozen 2
   have c0 : w1.cell? ⟨w.heap.size, 0, none⟩ = some (.int .i64 0) := k5.cell 0
   have c1 : w1.cell? ⟨w.heap.size, 1, none⟩ = some (.slice none 0 0) := k5.cell 1
   have c2 : w1.cell? ⟨w.heap.size, 2, none⟩ = some (.slice none 0 0) := k5.cell 2
   have Q0 := Lib.hid (set3 k5 (.int .i64 0) (.slice none 0 0) (.slice none 0 0))
   have HB := Lib.hid (below3 (HB0.out.trans (hb1.mono HB0.out.size)) (.int .i64 0) (.slice none 0 0) (.slice none 0 0))
   clear k5 hb1 HP2 herr
   go_wp2
   generalize ((w1.setCell ⟨w.heap.size, 0, none⟩ (.int .i64 0)).setCell ⟨w.heap.size, 1, none⟩ (.slice none 0 0)).setCell ⟨w.heap.size, 2, none⟩ (.slice none 0 0) = WG at *
   have r0 := Q0.out.cell 0
   have r1 := Q0.out.cell 1
   have r2 := Q0.out.cell 2
   refine bodyPost_ret (v := .tuple #[.pointer none, .agg #[.int .i64 0, .slice none 0 0, .slice none 0 0], .bool false]) (by simp [results, Tryz.f25, go_sem, r0, r1, r2]) rfl ?_
   exact ⟨rfl, HB.out⟩
  | ok li =>
   obtain ⟨ls, its⟩ := li
   have hnw := newF_ok (parseF_ok hp)
   have hrf : R = if 200 < (ofL its ls).length \/ most < its.length then none else some (ls, its) := by rw [<- HRF.out]; unfold readF; rw [if_neg hs, hp]
   rw [hp] at HPA
   have HP2 : Hid (Calls Tryz.prog 42 #[.string s] W0 fun e w' => ∃ bc vs, e = .returned (.tuple #[.pointer (some ⟨bc, 0, none⟩), .nilIface]) /\ CatV w' bc ls vs its W0.heap.size /\ (∀ k, k < W0.heap.size -> RgN ls vs (some k)) /\ Below W0.heap.size W0 w') := HPA.out
   have HRR := Lib.hid hrf
   clear hp HPA k5 hb0 HRF hrf
   go_wp2_with fail
   refine HP2.out.mono ?_
   rintro e w1 ⟨bc, vs, rfl, hcat, hlow, hb1⟩
   have HOF := Lib.hid (of_c bc ls its w1 hcat.cat hnw.1 (by omega) (fun x hx => check_names (hnw.2.2 x hx)))
   have HCAT := Lib.hid hcat
   have HLOW := Lib.hid hlow
   have HB1 := Lib.hid hb1
   have hs1 := hb1.size
   have hlt : w.heap.size < W0.heap.size := K5.out.lt
   have K51 := Lib.hid (K5.out.below hb1 hlt)
   have hn24 := hnw.1
   clear HP2 hcat hlow hb1 hnw K5
   obtain ⟨PF, hPF⟩ : ∃ PF, ofL its ls = PF := ⟨_, rfl⟩
   rw [hPF] at HOF HRR
   have HPF := Lib.hid hPF
   clear hPF
   go_wp2_with fail
   refine HOF.out.mono ?_
   intro e w2 hres
   rcases hres with ⟨hbig, rfl, hb2⟩ | ⟨hbig, cv, fv, rfl, hrs, hb2⟩
   ·obtain rfl : R = none := by rw [HRR.out, if_pos (Or.inl hbig)]
    have k5 := ((K51.out.below hb2 K51.out.lt).alloc (.cells #[.int .i64 0, .slice none 0 0, .slice none 0 0] 65))
    have hbn := below_new w2 (.cells #[.int .i64 0, .slice none 0 0, .slice none 0 0] 65)
    have HBX := Lib.hid ((HB0.out.trans (HB1.out.mono HB0.out.size)).trans (hb2.mono (by have := HB0.out.size; omega)))
    have HBY := Lib.hid (HBX.out.trans (hbn.mono HBX.out.size))
    have K5 := Lib.hid k5
    clear k5 hbn hb2 HOF K51 HCAT HLOW HB1
    go_upto_region 7 with fail
    generalize w2.alloc (.cells #[.int .i64 0, .slice none 0 0, .slice none 0 0] 65) = W3 at *
    have k5 := K5.out
    have f0 := k5.frozen 0
    have f1 := k5.frozen 1
    have f2 := k5.frozen 2
    have c0 : W3.cell? ⟨w.heap.size, 0, none⟩ = some (.int .i64 0) := k5.cell 0
    have c1 : W3.cell? ⟨w.heap.size, 1, none⟩ = some (.slice none 0 0) := k5.cell 1
    have c2 : W3.cell? ⟨w.heap.size, 2, none⟩ = some (.slice none 0 0) := k5.cell 2
    have Q0 := Lib.hid (set3 k5 (.int .i64 0) (.slice none 0 0) (.slice none 0 0))
    have HB := Lib.hid (below3 HBY.out (.int .i64 0) (.slice none 0 0) (.slice none 0 0))
    clear k5
    go_wp2
    generalize ((W3.setCell ⟨w.heap.size, 0, none⟩ (.int .i64 0)).setCell ⟨w.heap.size, 1, none⟩ (.slice none 0 0)).setCell ⟨w.heap.size, 2, none⟩ (.slice none 0 0) = WG at *
    have r0 := Q0.out.cell 0
    have r1 := Q0.out.cell 1
    have r2 := Q0.out.cell 2
    refine bodyPost_ret (v := .tuple #[.pointer none, .agg #[.int .i64 0, .slice none 0 0, .slice none 0 0], .bool false]) (by simp [results, Tryz.f25, go_sem, r0, r1, r2]) rfl ?_
    exact ⟨rfl, HB.out⟩
   ·obtain ⟨ca, cc, rfl⟩ : ∃ a c, cv = .slice a PF.length c := by obtain ⟨cs, h1, _⟩ := hrs.crow; obtain ⟨a, c, e, _⟩ := (rowAt_own h1).form; exact ⟨a, c, by simpa using e⟩
    obtain ⟨fa, fc, rfl⟩ : ∃ a c, fv = .slice a PF.length c := by obtain ⟨a, c, e, _⟩ := (rowAt_own hrs.frow).form; exact ⟨a, c, by simpa using e⟩
    have hbn := below_new w2 (.cells #[.int .i64 (its.length : Int), .slice ca PF.length cc, .slice fa PF.length fc] 65)
    have k5 := ((K51.out.below hb2 K51.out.lt).alloc (.cells #[.int .i64 (its.length : Int), .slice ca PF.length cc, .slice fa PF.length fc] 65))
    have k9 := Blk.new w2 65 #[.int .i64 (its.length : Int), .slice ca PF.length cc, .slice fa PF.length fc]
    have HBX := Lib.hid ((HB0.out.trans (HB1.out.mono HB0.out.size)).trans (hb2.mono (by have := HB0.out.size; omega)))
    have HBY := Lib.hid (HBX.out.trans (hbn.mono HBX.out.size))
    have HRS := Lib.hid (hrs.new hbn)
    have HCA := Lib.hid ((HCAT.out.below hb2 (Nat.le_refl _)).below hbn (Nat.le_refl _))
    have K5 := Lib.hid k5
    have K9 := Lib.hid k9
    have h29 : w1.heap.size <= w2.heap.size := hb2.size
    clear k5 k9 hbn hb2 HOF K51 HCAT hrs HB1
    go_upto_region 7 with fail
    generalize w2.alloc (.cells #[.int .i64 (its.length : Int), .slice ca PF.length cc, .slice fa PF.length fc] 65) = W3 at *
    generalize w2.heap.size = b9 at *
    have k5 := K5.out
    have f0 := k5.frozen 0
    have f1 := k5.frozen 1
    have f2 := k5.frozen 2
    have c0 : W3.cell? ⟨w.heap.size, 0, none⟩ = some (.int .i64 0) := k5.cell 0
    have c1 : W3.cell? ⟨w.heap.size, 1, none⟩ = some (.slice none 0 0) := k5.cell 1
    have c2 : W3.cell? ⟨w.heap.size, 2, none⟩ = some (.slice none 0 0) := k5.cell 2
    have e0 : W3.cell? ⟨b9, 0, none⟩ = some (.int .i64 (its.length : Int)) := K9.out.cell 0
    have e1 : W3.cell? ⟨b9, 1, none⟩ = some (.slice ca PF.length cc) := K9.out.cell 1
    have e2 : W3.cell? ⟨b9, 2, none⟩ = some (.slice fa PF.length fc) := K9.out.cell 2
    clear k5
    by_cases hmo : most < its.length
    ·obtain rfl : R = none := by rw [HRR.out, if_pos (Or.inr hmo)]
     have hmi : (most : Int) < (its.length : Int) := by omega
     have Q0 := Lib.hid (set3 K5.out (.int .i64 0) (.slice none 0 0) (.slice none 0 0))
     have HB := Lib.hid (below3 HBY.out (.int .i64 0) (.slice none 0 0) (.slice none 0 0))
     clear HCA HRS HLOW
     go_wp2
     generalize ((W3.setCell ⟨w.heap.size, 0, none⟩ (.int .i64 0)).setCell ⟨w.heap.size, 1, none⟩ (.slice none 0 0)).setCell ⟨w.heap.size, 2, none⟩ (.slice none 0 0) = WG at *
     have r0 := Q0.out.cell 0
     have r1 := Q0.out.cell 1
     have r2 := Q0.out.cell 2
     refine bodyPost_ret (v := .tuple #[.pointer none, .agg #[.int .i64 0, .slice none 0 0, .slice none 0 0], .bool false]) (by simp [results, Tryz.f25, go_sem, r0, r1, r2]) rfl ?_
     exact ⟨rfl, HB.out⟩
    ·obtain rfl : R = some (ls, its) := by rw [HRR.out, if_neg (by omega)]
     have hmi : ¬ (most : Int) < (its.length : Int) := by omega
     have hkl : w.heap.size < w1.heap.size := by omega
     have q0 := set3 K5.out (.int .i64 (its.length : Int)) (.slice ca PF.length cc) (.slice fa PF.length fc)
     have hB := below3 HBY.out (.int .i64 (its.length : Int)) (.slice ca PF.length cc) (.slice fa PF.length fc)
     have hR := ((HRS.out.set (i := 0) (v := .int .i64 (its.length : Int)) K5.out hkl).set (i := 1) (v := .slice ca PF.length cc) (K5.out.set (i := 0)) hkl).set (i := 2) (v := .slice fa PF.length fc) ((K5.out.set (i := 0)).set (i := 1)) hkl
     have hCA := ((HCA.out.set (k := w.heap.size) (i := 0) (x := .int .i64 (its.length : Int)) hlt (HLOW.out _ hlt)).set (k := w.heap.size) (i := 1) (x := .slice ca PF.length cc) hlt (HLOW.out _ hlt)).set (k := w.heap.size) (i := 2) (x := .slice fa PF.length fc) hlt (HLOW.out _ hlt)
     have Q0 : Hid (Blk (((W3.setCell ⟨w.heap.size, 0, none⟩ (.int .i64 (its.length : Int))).setCell ⟨w.heap.size, 1, none⟩ (.slice ca PF.length cc)).setCell ⟨w.heap.size, 2, none⟩ (.slice fa PF.length fc)).drew w.heap.size 65 #[.int .i64 (its.length : Int), .slice ca PF.length cc, .slice fa PF.length fc]) := q0
     have HB : Hid (Below w.heap.size w (((W3.setCell ⟨w.heap.size, 0, none⟩ (.int .i64 (its.length : Int))).setCell ⟨w.heap.size, 1, none⟩ (.slice ca PF.length cc)).setCell ⟨w.heap.size, 2, none⟩ (.slice fa PF.length fc)).drew) := hB.drew
     have hbd : Below (((W3.setCell ⟨w.heap.size, 0, none⟩ (.int .i64 (its.length : Int))).setCell ⟨w.heap.size, 1, none⟩ (.slice ca PF.length cc)).setCell ⟨w.heap.size, 2, none⟩ (.slice fa PF.length fc)).heap.size (((W3.setCell ⟨w.heap.size, 0, none⟩ (.int .i64 (its.length : Int))).setCell ⟨w.heap.size, 1, none⟩ (.slice ca PF.length cc)).setCell ⟨w.heap.size, 2, none⟩ (.slice fa PF.length fc)) (((W3.setCell ⟨w.heap.size, 0, none⟩ (.int .i64 (its.length : Int))).setCell ⟨w.heap.size, 1, none⟩ (.slice ca PF.length cc)).setCell ⟨w.heap.size, 2, none⟩ (.slice fa PF.length fc)).drew := (Below.refl _ _).drew
     have HR3 : Hid (RS w.heap.size (((W3.setCell ⟨w.heap.size, 0, none⟩ (.int .i64 (its.length : Int))).setCell ⟨w.heap.size, 1, none⟩ (.slice ca PF.length cc)).setCell ⟨w.heap.size, 2, none⟩ (.slice fa PF.length fc)).drew (.slice ca PF.length cc) (.slice fa PF.length fc) (PF.map Prod.snd) (PF.map Prod.fst)) := (hR.new hbd).base (Nat.le_of_lt hkl)
     have HC3 : Hid (CatAt (((W3.setCell ⟨w.heap.size, 0, none⟩ (.int .i64 (its.length : Int))).setCell ⟨w.heap.size, 1, none⟩ (.slice ca PF.length cc)).setCell ⟨w.heap.size, 2, none⟩ (.slice fa PF.length fc)).drew bc ls its) := (hCA.below hbd (Nat.le_refl _)).cat
     clear q0 hB hR hCA hbd HRS HCA HLOW
     go_upto_region 9 with fail
     go_big_region
     generalize (((W3.setCell ⟨w.heap.size, 0, none⟩ (.int .i64 (its.length : Int))).setCell ⟨w.heap.size, 1, none⟩ (.slice ca PF.length cc)).setCell ⟨w.heap.size, 2, none⟩ (.slice fa PF.length fc)).drew = WG at *
     go_wp2
     have r0 := Q0.out.cell 0
     have r1 := Q0.out.cell 1
     have r2 := Q0.out.cell 2
     refine bodyPost_ret (v := .tuple #[.pointer (some ⟨bc, 0, none⟩), .agg #[.int .i64 (its.length : Int), .slice ca PF.length cc, .slice fa PF.length fc], .bool true]) (by simp [results, Tryz.f25, go_sem, r0, r1, r2]) rfl ?_
     refine ⟨bc, _, _, rfl, HC3.out, ?_, HB.out⟩
     rw [HPF.out]
     exact HR3.out
end
section
open Go.RowKit Go.Deep Sv
theorem mask_lt (set n : Nat) : set &&& (2 ^ n - 1) < 2 ^ n := by
 rw [Nat.and_two_pow_sub_one_eq_mod]
 exact Nat.mod_lt _ (Nat.two_pow_pos n)
theorem mask_u64 (set n : Nat) (hs : set < 18446744073709551616) (hn : n <= 24) : bits BinOp.and IntKind.u64 (set : Int) (IntKind.u64.wrap (IntKind.u64.wrap (2 ^ n) - 1)) = ((set &&& (2 ^ n - 1) : Nat) : Int) := by
 rw [pow_wrap n (by omega)]
 have h1 := pow_64 n (by omega)
 have h0 : 0 < 2 ^ n := Nat.two_pow_pos n
 rw [w_u64 (((2 ^ n : Nat) : Int) - 1) (2 ^ n - 1) (by omega) (by omega)]
 exact and_u64 set (2 ^ n - 1) hs (by omega)
theorem read_some (s : ByteArray) (w : World) (hw : Lw w) (ls : List Ln) (its : List It) (m : Nat) (hr : readF s m = some (ls, its)) : Calls Tryz.prog 25 #[.string s, .int .i64 (m : Int)] w fun e w' => ∃ bc ca cc fa fc, e = .returned (.tuple #[.pointer (some ⟨bc, 0, none⟩), .agg #[.int .i64 (its.length : Int), .slice ca (ofL its ls).length cc, .slice fa (ofL its ls).length fc], .bool true]) /\ (ca = none -> cc = 0) /\ CatAt w' bc ls its /\ RS w.heap.size w' (.slice ca (ofL its ls).length cc) (.slice fa (ofL its ls).length fc) ((ofL its ls).map Prod.snd) ((ofL its ls).map Prod.fst) /\ Below w.heap.size w w' := by
 have HRD0 := read_c s m w hw
 rw [hr] at HRD0
 refine HRD0.mono fun e w' ⟨bc, cv, fv, h1, h2, h3, h4⟩ => ?_
 obtain ⟨ca, cc, e1, hn1⟩ : ∃ a c, cv = .slice a (ofL its ls).length c /\ (a = none -> c = 0) := by obtain ⟨cs, h1, _⟩ := h3.crow; obtain ⟨a, c, e, hn, _⟩ := (rowAt_own h1).form; exact ⟨a, c, by simpa using e, hn⟩
 obtain ⟨fa, fc, e2⟩ : ∃ a c, fv = .slice a (ofL its ls).length c := by obtain ⟨a, c, e, _⟩ := (rowAt_own h3.frow).form; exact ⟨a, c, by simpa using e⟩
 subst e1 e2
 exact ⟨bc, ca, cc, fa, fc, h1, hn1, h2, h3, h4⟩
theorem readF_ok {s : ByteArray} {m : Nat} {ls : List Ln} {its : List It} (hr : readF s m = some (ls, its)) : newF ls = .ok its /\ (ofL its ls).length <= 200 /\ its.length <= m := by
 unfold readF at hr
 split at hr
 ·cases hr
 ·split at hr
  ·cases hr
  ·rename_i ls' its' hp
   split at hr
   ·cases hr
   ·rename_i hle
    cases hr
    exact ⟨parseF_ok hp, by omega, by omega⟩
end
end Go.Proofs.YtpmpnbbihmgdpaaGreatDoor
