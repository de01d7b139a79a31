/- What the rows' lists give of the catalog's words; bools as arguments; a world in which the lists hold. -/
import Derived.Test.YtpmpnbbihmgdpaaGreatDoorPrulesL
import Derived.Test.YtpmpnbbihmgdpaaGreatDoorPlChange
import Derived.Test.YtpmpnbbihmgdpaaGreatDoorPlAmong
import Derived.Lib.QuietBelow
import Derived.Deep.CutRange
import Derived.Laws.Cover1
import Derived.Deep.QuietTactic
import Derived.BigQuiet
import Derived.Test.YtpmpnbbihmgdpaaGreatDoorPchP
import Derived.Test.YtpmpnbbihmgdpaaGreatDoorCards
import Derived.Test.YtpmpnbbihmgdpaaGreatDoorTie
import Derived.Test.YtpmpnbbihmgdpaaGreatDoorSvMem
import Derived.ProofKit
import Derived.OpenShut
import Derived.Deep.DeepHandedRow
import Derived.LaidHandle
import Derived.LaidSub
import Derived.Test.YtpmpnbbihmgdpaaGreatDoorSvCuts
import Derived.Stop.LaidErr
import Derived.Shelf.Vars
import Derived.Lib.LaidTab
import Derived.Test.YtpmpnbbihmgdpaaGreatDoorPlPlanP
import Derived.Test.YtpmpnbbihmgdpaaGreatDoorCtLines
import Derived.Deep.Grids
import Derived.Lib.SmallJoins
set_option maxHeartbeats 0
set_option maxRecDepth 100000
namespace Go.Proofs.YtpmpnbbihmgdpaaGreatDoor
section
open Go.RowKit Go.Deep Sv
theorem stCells_at : ∀ (l : List (Nat × Bool)) (i : Nat), i < l.length -> (stCells l)[i * 2]? = some (.int .i64 ((l.getD i (0, false)).1 : Int)) /\ (stCells l)[i * 2 + 1]? = some (.bool (l.getD i (0, false)).2)
 | [], i, h => by simp at h
 | x :: l, 0, _ => ⟨rfl, rfl⟩
 | x :: l, i + 1, h => by
  have ih := stCells_at l i (by simpa using h)
  have e : stCells (x :: l) = [.int .i64 (x.1 : Int), .bool x.2] ++ stCells l := rfl
  rw [e, List.getElem?_append_right (by simp; omega), List.getElem?_append_right (by simp; omega)]
  simp only [List.length_cons, List.length_nil, Nat.zero_add, Nat.reduceAdd]
  rw [show (i + 1) * 2 - 2 = i * 2 by omega, show (i + 1) * 2 + 1 - 2 = i * 2 + 1 by omega]
  exact ih
theorem pch_none (s : ByteArray) (fr tt : Nat) (w : World) (hw : Lw w) (hr : readF s 24 = none) : Calls Tryz.prog 10 #[.string s, .int .u64 (fr : Int), .int .u64 (tt : Int)] w fun e w' => e = .returned (.bool true) /\ Below w.heap.size w w' := by
 have HRD0 := read_c s 24 w hw
 rw [hr] at HRD0
 have HRD : Hid (Calls Tryz.prog 25 #[.string s, .int .i64 24] w fun e w' => e = .returned (.tuple #[.pointer none, .agg #[.int .i64 0, .slice none 0 0, .slice none 0 0], .bool false]) /\ Below w.heap.size w w') := HRD0
 have HCO : Hid (∀ W, Below w.heap.size w W -> Calls Tryz.prog 36 #[] W fun e w' => e = .returned (.bool true) /\ Below W.heap.size W w') := fun W hb => planned_c W (hw.below hb)
 clear HRD0 hr hw
 go_enter Tryz.func10, Tryz.ntmps10
 go_wp2_with fail
 refine HRD.out.mono ?_
 rintro e w1 ⟨rfl, hb1⟩
 have HB1 : Hid (Below w.heap.size w (w1.alloc (.cells #[.int .i64 0, .slice none 0 0, .slice none 0 0] 65))) := hb1.alloc hb1.size _
 clear hb1 HRD
 go_upto_region 2 with fail
 generalize w1.alloc (.cells #[.int .i64 0, .slice none 0 0, .slice none 0 0] 65) = W1 at *
 go_wp2_with fail
 refine (HCO.out W1 HB1.out).mono ?_
 rintro e w2 ⟨rfl, hb2⟩
 have HB2 : Hid (Below w.heap.size w w2) := HB1.out.trans (hb2.mono HB1.out.size)
 clear hb2 HB1
 go_wp2_with fail
 refine (HCO.out w2 HB2.out).mono ?_
 rintro e w3 ⟨rfl, hb3⟩
 have HB3 : Hid (Below w.heap.size w w3) := HB2.out.trans (hb3.mono HB2.out.size)
 clear hb3 HB2 HCO
 go_wp2
 go_ret
 exact ⟨rfl, HB3.out⟩
theorem pch_some (s : ByteArray) (fr tt : Nat) (h1 : fr < 18446744073709551616) (h2 : tt < 18446744073709551616) (w : World) (hw : Lw w) (ls : List Ln) (its : List It) (hr : readF s 24 = some (ls, its)) : Calls Tryz.prog 10 #[.string s, .int .u64 (fr : Int), .int .u64 (tt : Int)] w fun e w' => e = .returned (.bool true) /\ Below w.heap.size w w' := by
 obtain ⟨hN, hP, hv⟩ := readF_ok hr
 have HRD := Lib.hid (read_some s w hw ls its 24 hr)
 have HCO : Hid (∀ W, Below w.heap.size w W -> Calls Tryz.prog 36 #[] W fun e w' => e = .returned (.bool true) /\ Below W.heap.size W w') := fun W hb => planned_c W (hw.below hb)
 have hand1 := mask_u64 fr its.length h1 hv
 have hand2 := mask_u64 tt its.length h2 hv
 have hml1 := mask_lt fr its.length
 have hml2 := mask_lt tt its.length
 have hp24 : 2 ^ its.length <= 16777216 := Nat.pow_le_pow_right (n := 2) (by decide) hv
 obtain ⟨M1, hM1⟩ : ∃ M, fr &&& (2 ^ its.length - 1) = M := ⟨_, rfl⟩
 obtain ⟨M2, hM2⟩ : ∃ M, tt &&& (2 ^ its.length - 1) = M := ⟨_, rfl⟩
 rw [hM1] at hand1 hml1
 rw [hM2] at hand2 hml2
 have m1 : M1 < 16777216 := by omega
 have m2 : M2 < 16777216 := by omega
 have HC1 : Hid (∀ W bk, CatAt W bk ls its -> Calls Tryz.prog 35 #[.pointer (some ⟨bk, 0, none⟩), .int .u64 (M1 : Int), .int .u64 (M2 : Int)] W (ChangeRes W (chR its ls M1 M2))) := fun W bk hc => change_c bk ls its hN M1 M2 W hc (by omega) (by omega)
 have HC2 : Hid (∀ W bk, CatAt W bk ls its -> Calls Tryz.prog 35 #[.pointer (some ⟨bk, 0, none⟩), .int .u64 (M2 : Int), .int .u64 (M1 : Int)] W (ChangeRes W (chR its ls M2 M1))) := fun W bk hc => change_c bk ls its hN M2 M1 W hc (by omega) (by omega)
 have HTWO := Lib.hid (chR_two (its := its) (ls := ls) (fr := M1) (tt := M2))
 have HIS : Hid (∀ a b, ordR its ls M1 = .ok a -> ordR its ls M2 = .ok b -> StIs its.length M1 M2 (stepsF a b M1 M2)) := fun a b ha hb => steps_is (ordR_is hN hml1 ha) (ordR_is hN hml2 hb)
 clear hr hw hN hM1 hM2 hml1 hml2 hp24
 generalize ofL its ls = P at *
 go_enter Tryz.func10, Tryz.ntmps10
 go_wp2_with fail
 refine HRD.out.mono ?_
 rintro e w1 ⟨bc, ca, cc, fa, fc, rfl, hnc, hcat, hrs, hb1⟩
 have hbn := below_new w1 (.cells #[.int .i64 (its.length : Int), .slice ca P.length cc, .slice fa P.length fc] 65)
 have kr := Blk.new w1 65 #[.int .i64 (its.length : Int), .slice ca P.length cc, .slice fa P.length fc]
 have HCAT := Lib.hid (hcat.below hbn (Nat.le_refl _))
 have HB1 := Lib.hid (hb1.trans (hbn.mono hb1.size))
 clear hcat hrs hb1 hbn HRD
 go_upto_region 2 with fail
 generalize w1.alloc (.cells #[.int .i64 (its.length : Int), .slice ca P.length cc, .slice fa P.length fc] 65) = W1 at *
 generalize w1.heap.size = b4 at *
 go_wp2_with fail
 refine (HCO.out W1 HB1.out).mono ?_
 rintro e w2 ⟨rfl, hb2⟩
 have HB2 : Hid (Below w.heap.size w w2) := HB1.out.trans (hb2.mono HB1.out.size)
 have kr2 := kr.below hb2 kr.lt
 have KR2 := Lib.hid kr2
 have HCT2 := Lib.hid (HCAT.out.below hb2 (Nat.le_refl _))
 have d0 : w2.cell? ⟨b4, 0, none⟩ = some (.int .i64 (its.length : Int)) := kr2.cell 0
 clear hb2 HB1 HCO HCAT kr kr2
 rcases HTWO.out with ⟨k1, k2, e1, e2⟩ | ⟨a, b, ha, hb, e1, e2⟩
 ·have HX1 : Hid (Calls Tryz.prog 35 #[.pointer (some ⟨bc, 0, none⟩), .int .u64 (M1 : Int), .int .u64 (M2 : Int)] w2 fun e w' => e = .returned (.tuple #[.slice none 0 0, .iface 34 (.int .i64 k1)]) /\ Below w2.heap.size w2 w') := by
   have h := HC1.out w2 bc HCT2.out
   rw [e1] at h
   exact h
  have HX2 : Hid (∀ W, Below w2.heap.size w2 W -> Calls Tryz.prog 35 #[.pointer (some ⟨bc, 0, none⟩), .int .u64 (M2 : Int), .int .u64 (M1 : Int)] W fun e w' => e = .returned (.tuple #[.slice none 0 0, .iface 34 (.int .i64 k2)]) /\ Below W.heap.size W w') := fun W hb => by
   have h := HC2.out W bc (HCT2.out.below hb (Nat.le_refl _))
   rw [e2] at h
   exact h
  clear e1 e2 HC1 HC2 HTWO HIS
  go_wp2_with fail
  refine HX1.out.mono ?_
  rintro e w3 ⟨rfl, hb3⟩
  have HB3 : Hid (Below w.heap.size w w3) := HB2.out.trans (hb3.mono HB2.out.size)
  have HX3 := Lib.hid (HX2.out w3 hb3)
  clear hb3 HX1 HX2 HB2 d0
  go_wp2_with fail
  refine HX3.out.mono ?_
  rintro e w4 ⟨rfl, hb4⟩
  have HB4 : Hid (Below w.heap.size w w4) := HB3.out.trans (hb4.mono HB3.out.size)
  clear hb4 HB3 HX3
  go_wp2
  go_ret
  exact ⟨rfl, HB4.out⟩
 ·have hIS := HIS.out a b ha hb
  have HLEN := Lib.hid (steps_len a b M1 M2)
  obtain ⟨st, hst⟩ : ∃ st, stepsF a b M1 M2 = st := ⟨_, rfl⟩
  obtain ⟨su, hsu⟩ : ∃ su, stepsF b a M2 M1 = su := ⟨_, rfl⟩
  rw [hst] at hIS e1 HLEN
  rw [hsu] at e2 HLEN
  have HX1 : Hid (Calls Tryz.prog 35 #[.pointer (some ⟨bc, 0, none⟩), .int .u64 (M1 : Int), .int .u64 (M2 : Int)] w2 fun e w' => ∃ v, e = .returned (.tuple #[v, .nilIface]) /\ w'.ownsRow w2.heap.size 89 2 v st.length (stCells st) /\ Below w2.heap.size w2 w') := by
   have h := HC1.out w2 bc HCT2.out
   rw [e1] at h
   exact h
  have HX2 : Hid (∀ W, Below w2.heap.size w2 W -> Calls Tryz.prog 35 #[.pointer (some ⟨bc, 0, none⟩), .int .u64 (M2 : Int), .int .u64 (M1 : Int)] W fun e w' => ∃ xa xc, e = .returned (.tuple #[.slice xa st.length xc, .nilIface]) /\ Below W.heap.size W w') := fun W hb => by
   have h := HC2.out W bc (HCT2.out.below hb (Nat.le_refl _))
   rw [e2] at h
   refine h.mono ?_
   rintro e w' ⟨v, rfl, hrow, hb'⟩
   obtain ⟨xa, xc, rfl, -⟩ := (rowAt_own hrow).form
   rw [<- HLEN.out]
   exact ⟨xa, xc, rfl, hb'⟩
  have HST := Lib.hid hIS
  have hsl := hIS.len
  clear e1 e2 HC1 HC2 HTWO HIS ha hb hst hsu hIS HLEN
  go_wp2_with fail
  refine HX1.out.mono ?_
  rintro e w3 ⟨v, rfl, hrow, hb3⟩
  obtain ⟨sa, sc, rfl, -⟩ := (rowAt_own hrow).form
  have HB3 : Hid (Below w.heap.size w w3) := HB2.out.trans (hb3.mono HB2.out.size)
  have HX3 := Lib.hid (HX2.out w3 hb3)
  have HROW := Lib.hid hrow
  have KR3 := Lib.hid (KR2.out.below hb3 KR2.out.lt)
  clear hb3 HX1 HX2 HB2 d0 hrow KR2
  go_wp2_with fail
  refine HX3.out.mono ?_
  rintro e w4 ⟨xa, xc, rfl, hb4⟩
  have HB4 : Hid (Below w.heap.size w w4) := HB3.out.trans (hb4.mono HB3.out.size)
  have HROW4 := Lib.hid (row_new' HROW.out hb4)
  have KR4 := Lib.hid (KR3.out.below hb4 KR3.out.lt)
  clear hb4 HB3 HX3 HROW KR3
  go_wp2_with fail
  go_loopw [14, 15] (fun nV iV wr => ∃ i : Nat, i <= st.length /\ iV = .int .i64 (i : Int) /\ nV = .int .u64 ((nowF M1 ((st.map Prod.fst).take i) : Nat) : Int) /\ Below w4.heap.size w4 wr) (fun _ iV _ => st.length - (intOf iV).toNat)
  case atStart => exact ⟨0, Nat.zero_le _, rfl, rfl, Below.refl _ _⟩
  case round =>
   obtain ⟨i, hil, rfl, rfl, hbr⟩ := hrel
   have HBR := Lib.hid hbr
   by_cases hlt : i < st.length
   ·obtain ⟨gs, cap', hgs⟩ : ∃ gs cap', Value.slice sa st.length sc = .slice (some ⟨gs, 0, none⟩) st.length cap' := by
     rcases HROW4.out.2 with ⟨e, e0⟩ | ⟨g, cap', cur, e, _⟩
     ·omega
     ·exact ⟨g, cap', e⟩
    cases hgs
    have hrow5 := row_new' HROW4.out hbr
    have q0 := (hrow5.cellAt (i * 2) (by omega)).trans (stCells_at st i hlt).1
    have q1 := (hrow5.cellAt (i * 2 + 1) (by omega)).trans (stCells_at st i hlt).2
    have hmem : st.getD i (0, false) ∈ st := by rw [List.getD_eq_getElem?_getD, List.getElem?_eq_getElem hlt]; exact List.getElem_mem hlt
    have hxl := HST.out.lt _ hmem
    have hcm := HST.out.comes i hlt
    have hbo := HST.out.both _ hmem
    have HTK : Hid (nowF M1 ((st.map Prod.fst).take (i + 1)) = nowF M1 ((st.map Prod.fst).take i) ^^^ 2 ^ (st.getD i (0, false)).1) := by
     show _ = _
     rw [ptake_snoc _ i (by rw [List.length_map]; exact hlt), nowF_snoc]
     congr 2
     simp [List.getD_eq_getElem?_getD, hlt]
    have hnow := nowF_lt ((st.map Prod.fst).take i) (fun x hx => by
     obtain ⟨p, hp, rfl⟩ := List.mem_map.1 (List.mem_of_mem_take hx)
     have := HST.out.lt p hp
     omega) M1 m1
    have HPV : Hid (∀ j, j + 1 = i -> (st.getD j (0, false)).2 = true -> (st.getD i (0, false)).2 = true) := fun j hj h => by subst hj; exact HST.out.prev j hlt h
    have HQ2 : Hid (∀ j, j < st.length -> wr.cell? ⟨gs, j * 2 + 1, none⟩ = some (.bool (st.getD j (0, false)).2)) := fun j hj => (hrow5.cellAt (j * 2 + 1) (by omega)).trans (stCells_at st j hj).2
    obtain ⟨NW, hNW⟩ : ∃ NW, nowF M1 ((st.map Prod.fst).take i) = NW := ⟨_, rfl⟩
    obtain ⟨x, hx⟩ : ∃ x, (st.getD i (0, false)).1 = x := ⟨_, rfl⟩
    obtain ⟨c, hc⟩ : ∃ c, (st.getD i (0, false)).2 = c := ⟨_, rfl⟩
    rw [hNW] at hcm HTK hnow ⊢
    rw [hx] at q0 hxl hcm hbo HTK
    rw [hc] at q1 hcm HPV
    have hii0 : (0 : Int) <= (i : Int) := by omega
    have hii1 : (i : Int) < (st.length : Int) := by omega
    have hx0 : decide ((x : Int) < 0) = false := decide_eq_false (by omega)
    have hx1 : decide ((its.length : Int) <= (x : Int)) = false := decide_eq_false (by omega)
    have hx24 : x < 24 := by omega
    have s0 := shr_bit0 NW x (by omega)
    rw [<- hcm] at s0
    have hm12 := and_u64 M1 M2 (by omega) (by omega)
    have hm12l : M1 &&& M2 < 16777216 := Nat.lt_of_le_of_lt Nat.and_le_left m1
    have s1 := shr_bit1 (M1 &&& M2) x (by omega)
    rw [hbo] at s1
    generalize M1 &&& M2 = MB at *
    have hbn := below_new wr (.cells #[.int .i64 (x : Int), .bool c] 89)
    have kx := Blk.new wr 89 #[.int .i64 (x : Int), .bool c]
    have HB5 : Hid (Below w4.heap.size w4 (wr.alloc (.cells #[.int .i64 (x : Int), .bool c] 89))) := hbr.trans (hbn.mono hbr.size)
    have kr5 := (KR4.out.below hbr KR4.out.lt).below hbn (by have := (KR4.out.below hbr KR4.out.lt).lt; exact this)
    have HQ3 : Hid (∀ j, j < st.length -> (wr.alloc (.cells #[.int .i64 (x : Int), .bool c] 89)).cell? ⟨gs, j * 2 + 1, none⟩ = some (.bool (st.getD j (0, false)).2)) := fun j hj => ((row_new' hrow5 hbn).cellAt (j * 2 + 1) (by omega)).trans (stCells_at st j hj).2
    clear hNW hx hc hcm hbo hmem hrow5 HQ2 hbr hbn
    go_upto_region 15 with fail
    generalize wr.alloc (.cells #[.int .i64 (x : Int), .bool c] 89) = W5 at *
    generalize wr.heap.size = bx at *
    have x0 : W5.cell? ⟨bx, 0, none⟩ = some (.int .i64 (x : Int)) := kx.cell 0
    have x1 : W5.cell? ⟨bx, 1, none⟩ = some (.bool c) := kx.cell 1
    have d0 : W5.cell? ⟨b4, 0, none⟩ = some (.int .i64 (its.length : Int)) := kr5.cell 0
    clear q0 q1 kr5
    go_cut [134] from 87 to 134 (fun cc wx => cc = .bool false /\ Below W5.heap.size W5 wx)
    case first =>
     have hcc : (c != c) = false := by simp
     by_cases hi0 : i = 0
     ·subst hi0
      have hg : decide ((0 : Int) < ((0 : Nat) : Int)) = false := decide_eq_false (by omega)
      clear HQ3 HPV HTK
      go_quiet (fail)
      go_wp2
      go_meet
      case rel => exact ⟨by first | rfl | (simp; omega), below_drewN (Below.refl _ _) _⟩
     ·obtain ⟨j, hj⟩ : ∃ j, j + 1 = i := ⟨i - 1, by omega⟩
      have cj := HQ3.out j (by omega)
      have hpv := HPV.out j hj
      have hjw : IntKind.i64.wrap ((i : Int) - 1) = (j : Int) := by rw [show (i : Int) - 1 = (j : Int) by omega, IntKind.wrap_i64]; omega
      have hj0 : (0 : Int) <= (j : Int) := by omega
      have hj1 : (j : Int) < (st.length : Int) := by omega
      have hpos : (0 : Int) < (i : Int) := by omega
      have hposN : 0 < i := by omega
      obtain ⟨p, hp⟩ : ∃ p, (st.getD j (0, false)).2 = p := ⟨_, rfl⟩
      rw [hp] at cj hpv
      clear hp hj hi0 HQ3 HPV HTK
      cases p with
      | true =>
       obtain rfl := hpv rfl
       go_quiet (fail)
       go_wp2
       go_meet
       case rel => exact ⟨by first | rfl | (simp; omega), below_drewN (Below.refl _ _) _⟩
      | false =>
       clear hpv
       go_quiet (fail)
       go_wp2
       go_meet
       case rel => exact ⟨by first | rfl | (simp; omega), below_drewN (Below.refl _ _) _⟩
    case rest =>
     obtain ⟨rfl, hbc⟩ := hcut
     have HB6 : Hid (Below w4.heap.size w4 wc) := HB5.out.trans (hbc.mono HB5.out.size)
     have y0 : wc.cell? ⟨bx, 0, none⟩ = some (.int .i64 (x : Int)) := (kx.below hbc kx.lt).cell 0
     have hpw := pow_wrap x (by omega)
     have hxo := u64_xor_nat NW (2 ^ x) (by omega) (pow_64 x (by omega))
     rw [<- HTK.out] at hxo
     obtain ⟨N2, hN2⟩ : ∃ N2, nowF M1 ((st.map Prod.fst).take (i + 1)) = N2 := ⟨_, rfl⟩
     rw [hN2] at hxo
     have HN2 := Lib.hid hN2
     clear hbc kx HB5 x0 x1 d0 hN2 HTK HQ3 HPV s0 s1 hm12 hx0 hx1
     generalize (2 ^ x : Nat) = P2 at *
     go_wp2
     go_roundw
     case rel => exact ⟨i + 1, hlt, by go_num, by rw [HN2.out], HB6.out⟩
     case measure => simp [intOf]; omega
   ·obtain rfl : i = st.length := by omega
    have hfin := HST.out.fin
    rw [show (st.map Prod.fst).take st.length = st.map Prod.fst by rw [List.take_of_length_le]; simp, hfin]
    have HB6 : Hid (Below w.heap.size w wr) := HB4.out.trans (hbr.mono HB4.out.size)
    have hmm : ((M2 : Int) == (M2 : Int)) = true := by simp
    clear hbr hfin HBR
    go_wp2
    go_ret
    exact ⟨by first | rfl | simp, HB6.out⟩
theorem pch_any (s : ByteArray) (fr : Nat) (h1 : fr < 18446744073709551616) (tt : Nat) (h2 : tt < 18446744073709551616) (w : World) (hw : Lw w) : Calls Tryz.prog 10 #[.string s, .int .u64 (fr : Int), .int .u64 (tt : Int)] w fun e w' => e = .returned (.bool true) /\ Below w.heap.size w w' := by
 cases hr : readF s 24 with
 | none => exact pch_none s fr tt w hw hr
 | some r => exact pch_some s fr tt h1 h2 w hw r.1 r.2 hr
end
section
open Go.ChangeShapes Go.WideShapes Go.ChangeAt Go.RowKit
theorem own : ownKnob Tryz.prog.godebug = none := by kernel_rfl
theorem gErr : Tryz.prog.globalNamed "errors.errorType" = some 1 := by kernel_rfl
theorem rtypeIs : (Tryz.prog.cutTypes.find? (·.1 == "internal/reflectlite.rtype")).map (·.2) = some 303 := by kernel_rfl
theorem oneRow : ((List.range 409).filter fun t => Tryz.prog.rowNamed t [101, 114, 114, 111, 114]) = [36] := by kernel_rfl
theorem typesSize : Tryz.prog.types.size = 409 := by kernel_rfl
theorem glob_of {W : World} {l : List (String × DataW Unit)} (h : laidMetH Tryz.prog l W) (hk : (l.filter fun x => x.1 == "errors.errorType") = [("errors.errorType", Rows.laid_errors_errorType)]) : Glob W := by
 have h2 := h.filter fun x => x.1 == "errors.errorType"
 rw [hk] at h2
 have h3 : laidMet Tryz.prog [] W /\ handlesMet Tryz.prog [("errors.errorType", Rows.laid_errors_errorType)] W := h2
 obtain ⟨name, u, ty, e1, e2, e3, e4, e5⟩ := h3.2 _ (List.mem_singleton.2 rfl)
 have en : name = [101, 114, 114, 111, 114] := (Option.some.inj e1).symm
 subst en
 obtain rfl := Option.some.inj (rtypeIs.symm.trans e2)
 have hm : ty ∈ (List.range 409).filter fun t => Tryz.prog.rowNamed t [101, 114, 114, 111, 114] := List.mem_filter.2 ⟨List.mem_range.2 (by rw [<- typesSize]; exact e3), e4⟩
 rw [oneRow] at hm
 obtain rfl := List.mem_singleton.1 hm
 have hh : typeHandle Tryz.prog 36 = .pointer (some ⟨12, 36, none⟩) := by kernel_rfl
 rw [hh] at e5
 have h6 := World.var?_cell gErr e5 0
 unfold Glob; simpa using h6
def refill (cs : Array Value) : Obj -> Obj
 | .cells _ t frozen => .cells cs t frozen
 | o => o
end
section
open Go.ChangeShapes Go.WideShapes Go.ChangeAt Go.RowKit Go.Shelf
theorem gTab : Tryz.prog.globalNamed "internal/strconv.uint64pow10" = some 7 := by kernel_rfl
theorem gTabType : (Tryz.prog.globals[7]?).map (·.type) = some 364 := by kernel_rfl
theorem cellsTab : Tryz.prog.cellsOf 364 = 20 := by kernel_rfl
theorem cellsTabE : Tryz.prog.cellsOf 318 = 1 := by kernel_rfl
theorem gSyn : Tryz.prog.globalNamed "strconv.ErrSyntax" = some 8 := by kernel_rfl
theorem gSynType : (Tryz.prog.globals[8]?).map (·.type) = some 36 := by kernel_rfl
theorem gRng : Tryz.prog.globalNamed "strconv.ErrRange" = some 9 := by kernel_rfl
theorem gRngType : (Tryz.prog.globals[9]?).map (·.type) = some 36 := by kernel_rfl
theorem cellsEs : Tryz.prog.cellsOf 380 = 1 := by kernel_rfl
theorem cellsStr : Tryz.prog.cellsOf 9 = 1 := by kernel_rfl
theorem starEs : "*" ++ "errors.errorString" = "*errors.errorString" := by decide
theorem rowEs (u : TypeId) (h : Tryz.prog.typeName? 3 u = some "*errors.errorString") : u = 378 :=
 typeName_ptr_named (nm := "errors.errorString") (by rw [starEs]; kernel_rfl) (by kernel_rfl) (by decide) u (by rw [starEs]; exact h)
theorem tab_of {W : World} {l : List (String × DataW Unit)} (h : laidMetH Tryz.prog l W) (hk : (l.filter fun x => x.1 == "internal/strconv.uint64pow10") = [("internal/strconv.uint64pow10", Lib.tabData .u64 Lib.pow10Tab)]) : Lib.TabIs Tryz.prog W "internal/strconv.uint64pow10" .u64 Lib.pow10Tab := by
 have h2 := h.filter fun x => x.1 == "internal/strconv.uint64pow10"
 rw [hk] at h2
 have h3 : laidMet Tryz.prog [("internal/strconv.uint64pow10", Lib.tabData .u64 Lib.pow10Tab)] W := h2
 exact Lib.tabIs_of_head (rest := []) gTab gTabType Tryz.underlying364 Tryz.underlying318 cellsTabE cellsTab h3
theorem syn_of {W : World} {l : List (String × DataW Unit)} (h : laidMetH Tryz.prog l W) (hk : (l.filter fun x => x.1 == "strconv.ErrSyntax") = [("strconv.ErrSyntax", Rows.laid_strconv_ErrSyntax)]) : ∃ ev, W.cell? ⟨8, 0, none⟩ = some ev /\ (ev = .nilIface \/ ∃ te pe, ev = .iface te pe) := by
 have h2 := h.filter fun x => x.1 == "strconv.ErrSyntax"
 rw [hk] at h2
 have h3 : laidMet Tryz.prog [("strconv.ErrSyntax", Rows.laid_strconv_ErrSyntax)] W := h2
 obtain ⟨a0, s0, hv0, -, -, -⟩ := laid_sentinel h3 gSyn gSynType Tryz.underlying36 rowEs Tryz.underlying378 Tryz.underlying380 rfl rfl Tryz.underlying9 cellsEs cellsStr
 exact ⟨_, by have h0 := World.var?_cell gSyn hv0 0; simpa using h0, .inr ⟨_, _, rfl⟩⟩
theorem rng_of {W : World} {l : List (String × DataW Unit)} (h : laidMetH Tryz.prog l W) (hk : (l.filter fun x => x.1 == "strconv.ErrRange") = [("strconv.ErrRange", Rows.laid_strconv_ErrRange)]) : ∃ ev, W.cell? ⟨9, 0, none⟩ = some ev /\ (ev = .nilIface \/ ∃ te pe, ev = .iface te pe) := by
 have h2 := h.filter fun x => x.1 == "strconv.ErrRange"
 rw [hk] at h2
 have h3 : laidMet Tryz.prog [("strconv.ErrRange", Rows.laid_strconv_ErrRange)] W := h2
 obtain ⟨a0, s0, hv0, -, -, -⟩ := laid_sentinel h3 gRng gRngType Tryz.underlying36 rowEs Tryz.underlying378 Tryz.underlying380 rfl rfl Tryz.underlying9 cellsEs cellsStr
 exact ⟨_, by have h0 := World.var?_cell gRng hv0 0; simpa using h0, .inr ⟨_, _, rfl⟩⟩
theorem ml_of {W : World} (h : W.ShapedOpen Tryz.prog) : ∃ n, W.cell? ⟨4, 0, none⟩ = some (.int .i64 n) :=
 cell_of_shapedOpen_int (zero := #[.int .i64 0]) (t := 3) h (of_decide_eq_true (by kernel_rfl)) (by kernel_rfl) rfl (by kernel_rfl) (by kernel_rfl) Tryz.underlying3
theorem big_of {W : World} (h : W.ShapedOpen Tryz.prog) : 12 <= W.heap.size := by
 obtain ⟨o, _, ho, _⟩ := h.2 12 (of_decide_eq_true (by kernel_rfl)) (of_decide_eq_true (by kernel_rfl))
 have := (Array.getElem?_eq_some_iff.1 ho).1
 omega
theorem lb_of {W : World} {l : List (String × DataW Unit)} (h : laidMetH Tryz.prog l W) (hs : W.ShapedOpen Tryz.prog)
  (k1 : (l.filter fun x => x.1 == "internal/strconv.uint64pow10") = [("internal/strconv.uint64pow10", Lib.tabData .u64 Lib.pow10Tab)])
  (k2 : (l.filter fun x => x.1 == "strconv.ErrSyntax") = [("strconv.ErrSyntax", Rows.laid_strconv_ErrSyntax)])
  (k3 : (l.filter fun x => x.1 == "strconv.ErrRange") = [("strconv.ErrRange", Rows.laid_strconv_ErrRange)])
  (k4 : (l.filter fun x => x.1 == "errors.errorType") = [("errors.errorType", Rows.laid_errors_errorType)]) : Lb W :=
 ⟨ml_of hs, syn_of h k2, rng_of h k3, tab_of h k1, glob_of h k4, big_of hs⟩
def cellsIn1 : DataW Unit -> List Value
 | .lit (.int k z) => [.int k z]
 | _ => [undef]
def cellsIn2 : DataW Unit -> List Value
 | .agg l => l.flatMap cellsIn1
 | d => cellsIn1 d
def cellsIn : DataW Unit -> Array Value
 | .agg l => (l.flatMap cellsIn2).toArray
 | _ => #[]
end
section
open Go.ChangeShapes Go.WideShapes Go.ChangeAt Go.RowKit Go.Shelf
theorem gWords : Tryz.prog.globalNamed "solspace/catalog.words" = some 3 := by kernel_rfl
theorem gWordsType : (Tryz.prog.globals[3]?).map (·.type) = some 321 := by kernel_rfl
theorem cellsWords : Tryz.prog.cellsOf 321 = 5 := by kernel_rfl
theorem cells_of_strs {H : Type} {enc : TypeId × Value -> H} {P : Program} {w : World} {base : Nat} {sp : Nat -> Bool} {held : Bool} {fuel : Nat} {t e : TypeId} {n : Nat} {cs : List Value} {zs : List ByteArray} {p : List MemPlace}
  (ht : P.underlying t = some (.array n e)) (he : P.underlying e = some .string) (hce : P.cellsOf e = 1) (hct : P.cellsOf t = n)
  (h : DataW.trod enc P w base sp held fuel t cs = some (.agg (zs.map fun z => .lit (.string z.data.toList)), p)) : cs = zs.map fun z => Value.string z := by
 cases fuel with
 | zero => simp [DataW.trod] at h
 | succ fuel =>
  simp only [DataW.trod, ht, hce, hct, Nat.mul_one] at h
  split at h
  ·rename_i hl
   obtain ⟨xs, hm, hx⟩ := Option.map_eq_some_iff.1 h
   have hxs : xs.map (·.1) = zs.map fun z => (DataW.lit (.string z.data.toList) : DataW H) := by
    have := congrArg Prod.fst hx
    simpa using this
   have hxl : xs.length = n := by simpa using Lib.mapM_length hm
   have hzl : zs.length = n := by
    have := congrArg List.length hxs
    simp at this
    omega
   apply List.ext_getElem?
   intro i
   by_cases hi : i < n
   ·obtain ⟨b, hb, hf⟩ := Lib.mapM_at hm i i (by simp [hi])
    obtain ⟨z, hc, rfl, _⟩ := DataW.trod_string he hf
    have h1 : cs[i]? = some (.string z) := by
     have := congrArg (·[0]?) hc
     simpa [List.getElem?_take, List.getElem?_drop] using this
    have h2 : (xs.map (·.1))[i]? = some (DataW.lit (.string z.data.toList) : DataW H) := by simp [hb]
    rw [hxs] at h2
    simp only [List.getElem?_map, Option.map_eq_some_iff, DataW.lit.injEq, Lit.string.injEq] at h2
    obtain ⟨z', hz', e⟩ := h2
    obtain rfl : z' = z := ByteArray.ext (Array.toList_inj.1 e)
    simp [h1, hz']
   ·rw [List.getElem?_eq_none (by omega), List.getElem?_eq_none (by simp; omega)]
  ·cases h
theorem words_of {W : World} {l : List (String × DataW Unit)} (h : laidMetH Tryz.prog l W) (hk : (l.filter fun x => x.1 == "solspace/catalog.words") = [("solspace/catalog.words", Rows.laid_solspace_catalog_words)]) : WordsAt W := by
 have h2 := h.filter fun x => x.1 == "solspace/catalog.words"
 rw [hk] at h2
 have h3 : laidMet Tryz.prog [("solspace/catalog.words", Rows.laid_solspace_catalog_words)] W := h2
 obtain ⟨ps, ⟨g', t', cs, fuel, p, q, hg', ht', hvar, hd, _, _⟩, _⟩ := h3
 obtain rfl := Option.some.inj (gWords.symm.trans hg')
 obtain rfl := Option.some.inj (gWordsType.symm.trans ht')
 have hcs := cells_of_strs (zs := [⟨#[]⟩, ⟨#[112, 97, 99, 107, 97, 103, 101]⟩, ⟨#[110, 101, 101, 100, 115]⟩, ⟨#[99, 108, 97, 115, 104, 101, 115]⟩, ⟨#[114, 111, 111, 116]⟩]) Tryz.underlying321 Tryz.underlying9 cellsStr cellsWords hd
 have H := fun (i : Nat) => World.var?_cell gWords hvar i
 obtain ⟨cs⟩ := cs
 simp only at hcs
 subst hcs
 exact ⟨by simpa using H 0, by simpa using H 1, by simpa using H 2, by simpa using H 3, by simpa using H 4⟩
noncomputable def laidWorldK (os : Os) : World :=
 let w0 := World.holding Tryz.prog os ⟨#[.cells #[.string ⟨#[118, 97, 108, 117, 101, 32, 111, 117, 116, 32, 111, 102, 32, 114, 97, 110, 103, 101]⟩] 380, .cells #[.string ⟨#[105, 110, 118, 97, 108, 105, 100, 32, 115, 121, 110, 116, 97, 120]⟩] 380], #[], []⟩
 { w0 with heap := ((((((((w0.heap.modify 1 (refill #[.iface 303 (.agg #[.pointer (some ⟨12, 36, none⟩)])])).modify 8 (refill #[.iface 378 (.pointer (some ⟨18, 0, none⟩))])).modify 9 (refill #[.iface 378 (.pointer (some ⟨17, 0, none⟩))])).modify 7 (refill (cellsIn Rows.laid_internal_strconv_uint64pow10))).modify 5 (refill (cellsIn Rows.laid_unicode_utf8_first))).modify 6 (refill (cellsIn Rows.laid_unicode_utf8_acceptRanges))).modify 10 (refill (cellsIn Rows.laid_math_bits_deBruijn32tab))).modify 11 (refill (cellsIn Rows.laid_math_bits_deBruijn64tab))).modify 3 (refill #[.string ⟨#[]⟩, .string ⟨#[112, 97, 99, 107, 97, 103, 101]⟩, .string ⟨#[110, 101, 101, 100, 115]⟩, .string ⟨#[99, 108, 97, 115, 104, 101, 115]⟩, .string ⟨#[114, 111, 111, 116]⟩]) }
end
end Go.Proofs.YtpmpnbbihmgdpaaGreatDoor
