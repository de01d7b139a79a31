/- BddTells: what the law answers. -/
import Derived.Test.YtcjjekhecjmaeaaGreatDoorTlMap
import Derived.Test.YtcjjekhecjmaeaaGreatDoorTlRSize
import Derived.Test.YtcjjekhecjmaeaaGreatDoorTlSame
import Derived.Test.YtcjjekhecjmaeaaGreatDoorArTop
import Derived.Test.YtcjjekhecjmaeaaGreatDoorBdKthN
import Derived.Test.YtcjjekhecjmaeaaGreatDoorBdAllT
import Derived.Test.YtcjjekhecjmaeaaGreatDoorTlNeedW
set_option maxHeartbeats 8000000
set_option maxRecDepth 100000
namespace Go.Proofs.YtcjjekhecjmaeaaGreatDoor
open Go.ChangeShapes Go.WideShapes Go.ChangeAt Go.RowKit Go.Maps Num
theorem tabH_of {vars : Nat} {ns : List Nd} {h : Int} {p : Fn'} (hp : ∀ f, sem ns h f = p f) : tabOf vars p = tabH vars ns h := by
 unfold tabH
 exact congrArg (tabOf vars) (funext fun f => (hp f).symm)
theorem told_one (m : Nat) : toldF [(m : Int)] = Lib.decDigits m := by
 show Lib.join [Lib.itoa (m : Int)] [32] = _
 rw [itoa_nat]
 simp [Lib.join]
theorem tells_walk (vars : Nat) (hv0 : 0 < vars) (hv6 : vars <= 6) (xs : List Quad) (va : Value) (w : World) (hx : ArgQuads w va xs) (hxl : xs.length <= 25) (hT : Tab10 w) :
  Calls Tryz.prog 3 #[.int .i64 (vars : Int), va] w fun e w' => e = .returned (.bool true) /\ Below w.heap.size w w' := by
 have HM := Lib.hid (made_yes vars hv0 hv6 xs va w hx hxl)
 obtain ⟨hsem, hlen, hal⟩ := fun_ok hv0 hv6 xs [] [0, 1] _ (sems_start (good_nil vars)) (by simp) (by simp; omega)
 have p6 := pow_le6 hv6
 obtain ⟨a0, c0, rfl, -⟩ := hx
 have hTl := hsem.len
 have hne : 0 < (funF vars ([], [0, 1]) xs).2.length := by rw [hal]; simp; omega
 have hN27 : (funF vars ([], [0, 1]) xs).2.length <= 27 := by rw [hal]; simp; omega
 have hnl : (funF vars ([], [0, 1]) xs).1.length <= 5000 := by simp at hlen; omega
 have HSEM := Lib.hid hsem
 have HT := Lib.hid hT
 clear hsem hlen hal hT
 go_enter Tryz.func3, Tryz.ntmps3
 go_wp2_with fail
 refine HM.out.mono ?_
 rintro e w1 ⟨s, b, O, ga, c, tv, gs, rfl, hm⟩
 have htab := hm.tabs
 have hints := hm.ints
 have HSP := Lib.hid hm.space
 have HB1 := Lib.hid hm.below
 have hw1 := hm.below.size
 generalize (funF vars ([], [0, 1]) xs).2 = al at *
 generalize (funF vars ([], [0, 1]) xs).1 = ns at *
 generalize (funT vars [fun _ => false, fun _ => true] xs) = T at *
 have hgl : gs.length = al.length := by rw [htab.len, List.length_map]; exact hTl.symm
 obtain ⟨tg, tc, rfl, htg, htc, -⟩ := htab.form (by omega)
 have HR : Hid (∀ k (hk : k < al.length) W, Below w1.heap.size w1 W -> ∃ x gk, hasB ns x = true /\ W.cell? ⟨ga, k, none⟩ = some (.int .i64 x) /\ W.cell? ⟨tg, k, none⟩ = some (.slice (some ⟨gk, 0, none⟩) (2 ^ vars) (2 ^ vars)) /\ BoolsAt W gk (tabH vars ns x) /\ ga < w1.heap.size /\ tg < w1.heap.size) := fun k hk W hW => by
  have hgk : k < gs.length := by omega
  have tk : k < T.length := by omega
  have hbk : BoolsAt w1 gs[k] (tabH vars ns al[k]) := by
   have := htab.tabs k hgk (by rw [List.length_map]; exact tk)
   rw [List.getElem_map, tabH_of (HSEM.out.sem k hk tk)] at this
   exact this
  exact ⟨al[k], gs[k], HSEM.out.has _ (List.getElem_mem hk), (hW.cell (p := ⟨ga, k, none⟩) hints.lt).trans (hints.cells k hk), (hW.cell (p := ⟨tg, k, none⟩) htg).trans (htc k hgk), hbk.new hW, hints.lt, htg⟩
 have HGD := Lib.hid HSEM.out.good
 have HT1 := Lib.hid (HT.out.below HB1.out)
 rw [hgl]
 have eNN : (al.length != al.length) = false := by simp
 clear hm htab hints htc hTl HM HT HSEM htg hgl
 generalize al.length = N at *
 go_wp2_with fail
 go_loopw [9] (fun kV wr => ∃ k : Nat, k <= N /\ kV = .int .i64 (k : Int) /\ Below w1.heap.size w1 wr) (fun kV _ => N - (intOf kV).toNat)
 case atStart => exact ⟨0, Nat.zero_le _, rfl, Below.refl _ _⟩
 case round =>
  obtain ⟨w2, hw2⟩ : ∃ w2, w2 = wr := ⟨_, rfl⟩
  subst hw2
  obtain ⟨k, hk, rfl, hb2⟩ := hrel
  by_cases hkN : k < N
  ·have i1 : (k : Int) < (N : Int) := by omega
   obtain ⟨x, gk, hh, cx, ck, hbk, hgal, htgl⟩ := HR.out k hkN w2 hb2
   have HH := Lib.hid hh
   have HB2 := Lib.hid hb2
   have hs2 := hb2.size
   have HCT := Lib.hid (count_any w2 (HSP.out.new hb2) HGD.out (by omega) (by omega) x hh)
   have HBK := Lib.hid hbk
   have HX2 : Hid (∀ W, Below w2.heap.size w2 W -> W.cell? ⟨ga, k, none⟩ = some (.int .i64 x) /\ W.cell? ⟨tg, k, none⟩ = some (.slice (some ⟨gk, 0, none⟩) (2 ^ vars) (2 ^ vars))) := fun W hW => ⟨(hW.cell (p := ⟨ga, k, none⟩) (by show ga < _; omega)).trans cx, (hW.cell (p := ⟨tg, k, none⟩) (by show tg < _; omega)).trans ck⟩
   clear hb2 hh hbk HR ck
   go_wp2_with fail
   refine HCT.out.mono ?_
   rintro e w3 ⟨v3, rfl, hn3, hb3⟩
   clear HCT
   obtain ⟨⟨va, vn, vc⟩, rfl, hd3⟩ := hn3
   unfold NV.val
   have cx3 := (HX2.out w3 hb3).1
   have hn3 : NatAt w3 (.agg #[.slice va vn vc]) (waysN vars ns x 0) := ⟨⟨va, vn, vc⟩, rfl, hd3⟩
   have hb4 := hb3.alloc hb3.size (.cells #[.slice va vn vc] 30)
   have cx4 := (HX2.out _ hb4).1
   have hn4 := hn3.new (below_new w3 (.cells #[.slice va vn vc] 30))
   have cb4 : (w3.alloc (.cells #[.slice va vn vc] 30)).cell? ⟨w3.heap.size, 0, none⟩ = some (.slice va vn vc) := by simp
   have hl4 : w3.heap.size < (w3.alloc (.cells #[.slice va vn vc] 30)).heap.size := by rw [World.size_alloc]; omega
   have HB4 := Lib.hid hb4
   have HN4 := Lib.hid hn4
   have HC4 : Hid ((w3.alloc (.cells #[.slice va vn vc] 30)).cell? ⟨w3.heap.size, 0, none⟩ = some (.slice va vn vc) /\ w3.heap.size < (w3.alloc (.cells #[.slice va vn vc] 30)).heap.size) := ⟨cb4, hl4⟩
   have hB4 : w.heap.size <= (w3.alloc (.cells #[.slice va vn vc] 30)).heap.size := by
    have h1 := HB4.out.size
    omega
   have HND := Lib.hid (needs_any (HSP.out.new (HB2.out.trans (hb4.mono hs2))) HGD.out hnl (by omega) hB4 x HH.out)
   clear hd3 hn3 hb3 hb4 hn4 cb4 hl4
   go_wp2_with fail
   refine HND.out.mono ?_
   rintro e w5 ⟨v5, rfl, hsl5, hb5⟩
   obtain ⟨a5, c5, rfl, hc5⟩ := hsl5
   have hsl5 : SliceI w5 (.slice a5 (needF vars (tabH vars ns x)).length c5) (needF vars (tabH vars ns x)) := ⟨a5, c5, rfl, hc5⟩
   have HB5 := Lib.hid (HB4.out.trans (hb5.mono HB4.out.size))
   have HN5 := Lib.hid (HN4.out.new hb5)
   have HC5 := Lib.hid ((hb5.cell (p := ⟨w3.heap.size, 0, none⟩) HC4.out.2).trans HC4.out.1)
   have HL5 : Hid (w3.heap.size < w5.heap.size) := Nat.lt_of_lt_of_le HC4.out.2 hb5.size
   have cx5 := (HX2.out w5 HB5.out).1
   have hB5 : w.heap.size <= w5.heap.size := Nat.le_trans hB4 hb5.size
   have HSZ := Lib.hid (size_op (HSP.out.new (HB2.out.trans (HB5.out.mono hs2))) HGD.out.ranked (by omega) hB5 x HH.out)
   have HS5 := Lib.hid hsl5
   rw [<- size_is HGD.out HH.out (by omega)] at HSZ
   clear HND hsl5 hc5 hb5 HN4 HC4 cx4
   go_wp2_with fail
   refine HSZ.out.mono ?_
   rintro e w6 ⟨rfl, hb6⟩
   have HB6 := Lib.hid (HB5.out.trans (hb6.mono HB5.out.size))
   have hnat := HN5.out.new hb6
   have hsl6 := HS5.out.new hb6
   have SK : Hid (∀ W, Below w6.heap.size w6 W -> W.cell? ⟨w3.heap.size, 0, none⟩ = some (.slice va vn vc) /\ W.cell? ⟨tg, k, none⟩ = some (.slice (some ⟨gk, 0, none⟩) (2 ^ vars) (2 ^ vars))) := fun W hW =>
    ⟨(hW.cell (p := ⟨w3.heap.size, 0, none⟩) (Nat.lt_of_lt_of_le HL5.out hb6.size)).trans ((hb6.cell (p := ⟨w3.heap.size, 0, none⟩) HL5.out).trans HC5.out), (HX2.out W (HB6.out.trans (hW.mono HB6.out.size))).2⟩
   have HT6 : Hid (∀ W, Below w6.heap.size w6 W -> Tab10 W) := fun W hW => HT1.out.below (HB2.out.trans ((HB6.out.trans (hW.mono HB6.out.size)).mono hs2))
   have HBK6 : Hid (∀ W, Below w6.heap.size w6 W -> BoolsAt W gk (tabH vars ns x)) := fun W hW => HBK.out.new (HB6.out.trans (hW.mono HB6.out.size))
   have hway : waysN vars ns x 0 <= 64 := by
    have := cntV_le (sem ns x) (vars - 0) 0 (fun _ => false)
    unfold waysN
    rw [Nat.sub_zero] at this ⊢
    omega
   have hall : (allN vars (fun f => sem ns x f)).length = waysN vars ns x 0 := by
    rw [allN_kth HGD.out (by omega) HH.out (fun _ => rfl)]; simp
   have HTXT : Hid (∀ W, Below w6.heap.size w6 W -> Calls Tryz.prog 12 #[.agg #[.slice va vn vc]] W fun e w' => e = .returned (.string ⟨(Lib.decDigits (waysN vars ns x 0)).toArray⟩) /\ Below w6.heap.size w6 w') := fun W hW =>
    (text_c (hnat.new hW) (by omega) (HT6.out W hW)).mono (by rintro e w' ⟨rfl, hb⟩; exact ⟨rfl, hW.trans (hb.mono hW.size)⟩)
   have HALL : Hid (∀ W, Below w6.heap.size w6 W -> Calls Tryz.prog 14 #[.slice (some ⟨gk, 0, none⟩) (2 ^ vars) (2 ^ vars), .int .i64 (vars : Int)] W fun e w' => ∃ a c, e = .returned (.slice a (waysN vars ns x 0) c) /\ Below w6.heap.size w6 w') := fun W hW =>
    (all_any vars hv0 hv6 gk (fun f => sem ns x f) W (HBK6.out W hW)).mono (by
     rintro e w' ⟨v, rfl, hrow, hb⟩
     obtain ⟨a, c, e, -⟩ := row1_form hrow
     rw [hall] at e
     exact ⟨a, c, by rw [e], hW.trans (hb.mono hW.size)⟩)
   have HTLD : Hid (∀ W bs cp, Below w6.heap.size w6 W -> bs < W.heap.size -> W.cell? ⟨bs, 0, none⟩ = some (.int .i64 (waysN vars ns x 0 : Nat)) -> Calls Tryz.prog 13 #[.slice (some ⟨bs, 0, none⟩) 1 cp] W fun e w' => e = .returned (.string ⟨(Lib.decDigits (waysN vars ns x 0)).toArray⟩) /\ Below w6.heap.size w6 w') := fun W bs cp hW hbs hc => by
    have := rtold_any [((waysN vars ns x 0 : Nat) : Int)] (by simp) (by simp) (fun y hy => by rw [List.mem_singleton] at hy; subst hy; omega) bs cp W (HT6.out W hW) hbs (fun j hj => by
     obtain rfl : j = 0 := by simp at hj; omega
     exact hc)
    rw [told_one] at this
    exact this.mono (by rintro e w' ⟨rfl, hb⟩; exact ⟨rfl, hW.trans (hb.mono hW.size)⟩)
   have HRND : Hid (∀ W, Below w6.heap.size w6 W -> Calls Tryz.prog 16 #[.slice (some ⟨gk, 0, none⟩) (2 ^ vars) (2 ^ vars), .int .i64 (vars : Int)] W fun e w' => ∃ a c, e = .returned (.slice a (needF vars (tabH vars ns x)).length c) /\ SliceI w' (.slice a (needF vars (tabH vars ns x)).length c) (needF vars (tabH vars ns x)) /\ Below w6.heap.size w6 w') := fun W hW =>
    (rneeds_any (tabH vars ns x) gk vars hv6 W (HBK6.out W hW) (tabH_len x)).mono (by
     rintro e w' ⟨v, rfl, ⟨a, c, rfl, hs⟩, hb⟩
     exact ⟨a, c, rfl, ⟨a, c, rfl, hs⟩, hW.trans (hb.mono hW.size)⟩)
   have hnd := needF_len vars (tabH vars ns x)
   have HSAM : Hid (∀ W a c, Below w6.heap.size w6 W -> SliceI W (.slice a (needF vars (tabH vars ns x)).length c) (needF vars (tabH vars ns x)) -> Calls Tryz.prog 15 #[.slice a5 (needF vars (tabH vars ns x)).length c5, .slice a (needF vars (tabH vars ns x)).length c] W fun e w' => e = .returned (.bool true) /\ Below w6.heap.size w6 w') := fun W a c hW hs =>
    (same_sl (hsl6.new hW) hs (by omega)).mono (by rintro e w' ⟨rfl, hb⟩; exact ⟨rfl, hW.trans (hb.mono hW.size)⟩)
   have HRSZ : Hid (∀ W, Below w6.heap.size w6 W -> Calls Tryz.prog 17 #[.slice (some ⟨gk, 0, none⟩) (2 ^ vars) (2 ^ vars), .int .i64 (vars : Int)] W fun e w' => e = .returned (.int .i64 (sizeN ns x vars : Nat)) /\ Below w6.heap.size w6 w') := fun W hW =>
    (rsize_any HGD.out hv6 x HH.out W gk (HBK6.out W hW)).mono (by rintro e w' ⟨rfl, hb⟩; exact ⟨rfl, hW.trans (hb.mono hW.size)⟩)
   have HOUT : Hid (∀ W, Below w6.heap.size w6 W -> Below w1.heap.size w1 W) := fun W hW => HB2.out.trans ((HB6.out.trans (hW.mono HB6.out.size)).mono hs2)
   have BR : Below w6.heap.size w6 w6.drew := (Below.refl w6.heap.size w6).drew
   have BA : Hid (∀ W o, Below w6.heap.size w6 W -> Below w6.heap.size w6 (W.alloc o)) := fun W o h => h.alloc h.size o
   clear HSZ hb6 HN5 HS5 HC5 HL5 HBK HBK6 HT6 cx5 cx3 cx hall hnat hsl6 HX2 HB5 HB4 HB6 HB2
   generalize (⟨(Lib.decDigits (waysN vars ns x 0)).toArray⟩ : ByteArray) = R at *
   generalize waysN vars ns x 0 = M at *
   generalize needF vars (tabH vars ns x) = L at *
   generalize sizeN ns x vars = Z at *
   generalize 2 ^ vars = n at *
   have hnn : (R != R) = false := by simp
   have hzz : ((Z : Int) != (Z : Int)) = false := by simp
   go_upto_region 12 with fail
   go_cut [112] (fun v wx => v = .bool false /\ Below w6.heap.size w6 wx)
   case first =>
    clear HSP HGD HT1 HB1 HH HOUT
    go_region_held3 (fun X => X.cell? ⟨w3.heap.size, 0, none⟩ = some (.slice va vn vc) /\ X.cell? ⟨tg, k, none⟩ = some (.slice (some ⟨gk, 0, none⟩) n n))
     (exact SK.out _ (by first | assumption | exact BA.out _ _ (by assumption) | exact Below.drew (by assumption)))
     (first
      | (go_at_call 12; refine (HTXT.out _ (by first | assumption | exact BA.out _ _ (by assumption))).mono ?_; rintro e w' ⟨rfl, hb⟩)
      | (go_at_call 14; refine (HALL.out _ (by first | assumption | exact BA.out _ _ (by assumption))).mono ?_; rintro e w' ⟨ra, rc, rfl, hb⟩)
      | (go_at_call 13; refine (HTLD.out _ _ _ (by first | assumption | exact BA.out _ _ (by assumption)) (by simp) (by simp)).mono ?_; rintro e w' ⟨rfl, hb⟩)
      | (go_at_call 16; refine (HRND.out _ (by first | assumption | exact BA.out _ _ (by assumption))).mono ?_; rintro e w' ⟨na, nc, rfl, hsn, hb⟩)
      | (go_at_call 15; refine (HSAM.out _ _ _ (by first | assumption | exact BA.out _ _ (by assumption)) (by assumption)).mono ?_; rintro e w' ⟨rfl, hb⟩)
      | (go_at_call 17; refine (HRSZ.out _ (by first | assumption | exact BA.out _ _ (by assumption))).mono ?_; rintro e w' ⟨rfl, hb⟩))
    all_goals
     go_wp2_with fail
     go_meet
     case rel => exact ⟨rfl, hb⟩
   case rest =>
   obtain ⟨rfl, hb7⟩ := hcut
   have HB7 := Lib.hid (HOUT.out _ hb7)
   clear hb7
   go_wp2
   go_roundw
   case rel => exact ⟨k + 1, by omega, by go_num, HB7.out⟩
   case measure => simp [intOf]; omega
  ·obtain rfl : N = k := by omega
   have HB := Lib.hid (HB1.out.trans (hb2.mono hw1))
   go_wp2
   go_ret
   exact ⟨rfl, HB.out⟩
theorem tells_no (vars : Int) (xs : List Quad) (va : Value) (w : World) (hx : ArgQuads w va xs) (hn : xs.length <= 9223372036854775807) (h : vars < 1 \/ 6 < vars \/ 25 < xs.length) :
  Calls Tryz.prog 3 #[.int .i64 vars, va] w fun e w' => e = .returned (.bool true) /\ Below w.heap.size w w' := by
 obtain ⟨a, c, rfl, -⟩ := hx
 have HS := Lib.hid (made_no vars a xs.length c h hn w)
 clear h
 go_enter Tryz.func3, Tryz.ntmps3
 go_wp2_with fail
 refine HS.out.mono ?_
 rintro e w1 ⟨rfl, rfl⟩
 clear HS
 go_wp2
 go_ret
 exact ⟨rfl, Below.refl _ _⟩
theorem tells_any (vars : Int) (xs : List Quad) (va : Value) (w : World) (hx : ArgQuads w va xs) (hn : xs.length <= 9223372036854775807) (hT : Tab10 w) :
  Calls Tryz.prog 3 #[.int .i64 vars, va] w fun e w' => e = .returned (.bool true) /\ Below w.heap.size w w' := by
 by_cases h : vars < 1 \/ 6 < vars \/ 25 < xs.length
 ·exact tells_no vars xs va w hx hn h
 ·obtain ⟨n, rfl⟩ : ∃ n : Nat, vars = (n : Int) := ⟨vars.toNat, by omega⟩
  exact tells_walk n (by omega) (by omega) xs va w hx (by omega) hT
end Go.Proofs.YtcjjekhecjmaeaaGreatDoor
