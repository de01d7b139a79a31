/- read. -/
import Derived.Test.YtpmpnbbihmgdpaaGreatDoorCtMem
import Derived.Test.YtpmpnbbihmgdpaaGreatDoorRsCoredP
import Derived.Test.YtpmpnbbihmgdpaaGreatDoorCtParse
import Derived.Test.YtpmpnbbihmgdpaaGreatDoorRsSaid
import Derived.Test.YtpmpnbbihmgdpaaGreatDoorClTold
set_option maxHeartbeats 4000000
set_option maxRecDepth 100000
namespace Go.Proofs.YtpmpnbbihmgdpaaGreatDoor
section
open Go.RowKit Go.Deep
theorem same_intsK (xs : List Int) (a1 a2 : Option Addr) (c1 c2 : Nat) (w : World) (h1 : IntsIn w a1 xs) (h2 : IntsIn w a2 xs) (hm : xs.length <= 9223372036854775807) :
  Calls Tryz.prog 68 #[.slice a1 xs.length c1, .slice a2 xs.length c2] w fun e w' => e = .returned (.bool true) /\ Below w.heap.size w w' := by
 have H1 := Lib.hid h1
 have H2 := Lib.hid h2
 clear h1 h2
 have enn : ((xs.length : Int) != (xs.length : Int)) = false := by simp
 go_enter Tryz.func68, Tryz.ntmps68
 go_wp2_with fail
 go_loopw [5] (fun kV wr => ∃ k : Nat, k <= xs.length /\ kV = .int .i64 (k : Int) /\ Below w.heap.size w wr) (fun kV _ => xs.length - (intOf kV).toNat)
 case atStart => exact ⟨0, Nat.zero_le _, rfl, Below.refl _ _⟩
 case round =>
  obtain ⟨k, hk, rfl, hbr⟩ := hrel
  have HBR := Lib.hid hbr
  clear hbr
  by_cases hlt : k < xs.length
  ·obtain ⟨ad1, rfl, hl1, hc1⟩ := H1.out.below HBR.out k hlt
   obtain ⟨ad2, rfl, hl2, hc2⟩ := H2.out.below HBR.out k hlt
   generalize xs.getD k 0 = x at *
   have exx : (x != x) = false := by simp
   have HBN : Hid (∀ q, Below w.heap.size w (wr.drewN q)) := fun q => HBR.out.trans ⟨rfl, rfl, rfl, Nat.le_refl _, fun _ _ => rfl⟩
   go_wp2_with fail
   go_quiet (fail)
   go_wp2
   go_roundw
   case rel => exact ⟨k + 1, hlt, by go_num, HBN.out _⟩
   case measure => simp [intOf]; omega
  ·obtain rfl : k = xs.length := by omega
   go_wp2
   go_ret
   exact ⟨rfl, HBR.out⟩
end
section
open Go.RowKit Go.Deep Sv
theorem lit2_inR (W : World) (x y : Int) : IntsIn (W.alloc (.cells #[.int .i64 x, .int .i64 y] 3)) (some ⟨W.heap.size, 0, none⟩) [x, y] := fun i hi => by
 have hB := Blk.new W 3 #[.int .i64 x, .int .i64 y]
 refine ⟨_, rfl, hB.lt, ?_⟩
 rw [add_plain, Nat.zero_add, hB.cell i]
 match i, hi with
 | 0, _ => rfl
 | 1, _ => rfl
theorem cored_c (w : World) (hw : Lw w) : Calls Tryz.prog 26 #[] w fun e w' => e = .returned (.bool true) /\ Below w.heap.size w w' := by
 have HP0 := parse_any_c corT w hw
 rw [cor_parse] at HP0
 have HP : Hid (Calls Tryz.prog 42 #[.string corT] w fun e w' => ∃ bc, e = .returned (.tuple #[.pointer (some ⟨bc, 0, none⟩), .nilIface]) /\ CatAt w' bc corL corI /\ Below w.heap.size w w') := by
  refine HP0.mono ?_
  rintro e w' ⟨bc, vs, rfl, q1, -, q3⟩
  exact ⟨bc, rfl, q1.cat, q3⟩
 have HC : Hid (∀ W bc, CatAt W bc corL corI -> Calls Tryz.prog 14 #[.pointer (some ⟨bc, 0, none⟩)] W fun e w' => ∃ a c, e = .returned (.tuple #[.slice a 2 c, .nilIface]) /\ IntsIn w' a [1, 2] /\ Below W.heap.size W w') := fun W bc hcat => by
  have hof : (ofL corI corL).length <= 200 := by rw [cor_of]; decide
  refine (core_c (canL corL corI) bc corL corI W hcat (by decide) (by decide) (fun x hx => ?_) hof (fun x hx => ?_) (fun l => only_check cor_new hof _) (fun l b er h => canE_lines cor_new (by decide) _ h)).mono ?_
  ·simp only [corL, List.mem_cons, List.not_mem_nil, or_false] at hx
   rcases hx with rfl | rfl | rfl <;> exact ⟨by decide, by decide⟩
  ·rw [cor_of] at hx
   simp only [List.mem_cons, List.not_mem_nil, or_false] at hx
   rcases hx with rfl | rfl <;> decide
  ·rintro e w' ⟨h | ⟨-, a, c, rfl, hi⟩, hb⟩
   ·have := h.1
    rw [cor_said, cor_all] at this
    cases this
   ·rw [cor_core] at hi ⊢
    exact ⟨a, c, rfl, hi, hb⟩
 have hT : corT = ⟨#[112, 97, 99, 107, 97, 103, 101, 32, 97, 32, 49, 46, 48, 46, 48, 10, 114, 111, 111, 116, 32, 97, 32, 97, 110, 121, 10, 99, 108, 97, 115, 104, 101, 115, 32, 97, 32, 49, 46, 48, 46, 48, 32, 97, 32, 97, 110, 121, 10]⟩ := rfl
 rw [hT] at HP
 clear HP0 hw hT
 go_enter Tryz.func26, Tryz.ntmps26
 go_wp2_with fail
 refine HP.out.mono ?_
 rintro e w1 ⟨bc, rfl, hcat, hb1⟩
 have HC1 := Lib.hid (HC.out w1 bc hcat)
 have HB1 := Lib.hid hb1
 clear hcat hb1 HC HP
 go_wp2_with fail
 refine HC1.out.mono ?_
 rintro e w2 ⟨a, c, rfl, hi, hb2⟩
 have hbl := below_new w2 (.cells #[.int .i64 1, .int .i64 2] 3)
 have HS := Lib.hid (same_intsK [1, 2] a (some ⟨w2.heap.size, 0, none⟩) c 2 (w2.alloc (.cells #[.int .i64 1, .int .i64 2] 3)) (hi.below hbl) (lit2_inR w2 1 2) (by simp))
 have HB2 := Lib.hid ((HB1.out.trans (hb2.mono HB1.out.size)).trans (hbl.mono (Nat.le_trans HB1.out.size hb2.size)))
 clear hi hb2 hbl HC1 HB1
 go_wp2_with fail
 refine HS.out.mono ?_
 rintro e w3 ⟨rfl, hb3⟩
 have HB3 := Lib.hid (HB2.out.trans (hb3.mono HB2.out.size))
 clear hb3 HB2 HS
 go_wp2
 go_ret
 exact ⟨rfl, HB3.out⟩
end
section
open Go.RowKit Go.Deep Sv
def outP (l : List Nat) (wo : Int) (i : Nat) : List Nat := ((List.range i).filter fun k : Nat => (k : Int) != wo).map fun k => l.getD k 0
theorem outP_succ (l : List Nat) (wo : Int) (i : Nat) : outP l wo (i + 1) = outP l wo i ++ (if (i : Int) != wo then [l.getD i 0] else []) := by
 unfold outP
 rw [List.range_succ, List.filter_append, List.map_append]
 congr 1
 by_cases h : ((i : Int) != wo) = true
 ·rw [if_pos h, List.filter_cons, if_pos h, List.filter_nil]; rfl
 ·rw [if_neg h, List.filter_cons, if_neg h, List.filter_nil]; rfl
theorem outP_mem {l : List Nat} {wo : Int} {i x : Nat} (h : x ∈ outP l wo i) : ∃ k, k < i /\ x = l.getD k 0 := by
 unfold outP at h
 obtain ⟨k, hk, rfl⟩ := List.mem_map.1 h
 exact ⟨k, by simpa using (List.mem_filter.1 hk).1, rfl⟩
theorem outP_new {l : List Nat} (hn : l.Nodup) {wo : Int} {i : Nat} (hi : i < l.length) : l.getD i 0 ∉ outP l wo i := fun h => by
 obtain ⟨k, hk, e⟩ := outP_mem h
 rw [List.getD_eq_getElem?_getD, List.getElem?_eq_getElem hi, List.getD_eq_getElem?_getD, List.getElem?_eq_getElem (show k < l.length by omega)] at e
 exact (List.pairwise_iff_getElem.1 hn k i (by omega) hi hk) e.symm
theorem CanE.er {v : Nat} {l : List (List Int)} {b : Bool} {er : Value} (h : CanE v l b er) : er = .nilIface \/ er = .iface 34 (.int .i64 4) := by
 obtain ⟨r, -, ⟨_, _, _, h⟩ | ⟨_, _, _, h⟩ | ⟨_, _, h⟩⟩ := h
 ·exact Or.inl h
 ·exact Or.inl h
 ·exact Or.inr h
theorem BoolB.put {W : World} {g m : Nat} {ls : List Nat} (h : BoolB W g (inF m ls)) {n : Nat} (hn : n < m) (hnew : n ∉ ls) (b : Bool) : BoolB (W.setCell ⟨g, n, none⟩ (.bool b)) g (inF m (ls ++ if b then [n] else [])) := by
 cases b with
 | true => exact h.tell hn
 | false =>
  obtain ⟨cur, h1, h2, h3⟩ := h
  rw [inF_len] at h2 h3
  rw [if_neg (by simp), List.append_nil]
  refine ⟨_, h1.set, by rw [Array.size_setIfInBounds, inF_len, h2], fun j hj => ?_⟩
  rw [inF_len] at hj
  rw [Array.getElem?_setIfInBounds, inF_at _ hj]
  by_cases e : n = j
  ·subst e
   rw [if_pos rfl, if_pos (by omega)]
   simp [hnew]
  ·rw [if_neg e, h3 j hj, inF_at _ hj]
theorem kcan_c (B n : Nat) (P : List (Int × List Int)) (cv fv : Value) (ls : List Nat) (la : Option Addr) (lc : Nat) (wo : Int) (w : World) (hr : RS B w cv fv (P.map Prod.snd) (P.map Prod.fst)) (hl : IntsIn w la (natI ls)) (hlt : ∀ x ∈ ls, x < 100) (hnd : ls.Nodup) (hll : ls.length <= 100000) (hP : P.length <= 10000) (hc : ∀ x ∈ P, x.2.length <= 1000) (hck : (checkF n (ctOnly P (inF 100 (outP ls wo ls.length)))).1 = 0) :
  Calls Tryz.prog 29 #[.agg #[.int .i64 (n : Int), cv, fv], .slice la ls.length lc, .int .i64 wo] w fun e w' => ∃ b er f, e = .returned (.tuple #[.bool b, .bool f]) /\ (f = true ↔ er = .nilIface) /\ CanE n (ctOnly P (inF 100 (outP ls wo ls.length))) b er /\ Below w.heap.size w w' := by
 obtain ⟨ca, cc, rfl, -⟩ : ∃ a c, cv = .slice a P.length c /\ True := by obtain ⟨cs, h1, _⟩ := hr.crow; obtain ⟨a, c, e, _⟩ := (rowAt_own h1).form; exact ⟨a, c, by simpa using e, trivial⟩
 obtain ⟨fa, fc, rfl, -⟩ : ∃ a c, fv = .slice a P.length c /\ True := by obtain ⟨a, c, e, _⟩ := (rowAt_own hr.frow).form; exact ⟨a, c, by simpa using e, trivial⟩
 obtain ⟨i0, hin, hz0, hz1, hz2⟩ := info_parts infoBoolR
 have hb1 := below_new w (.cells #[.int .i64 (n : Int), .slice ca P.length cc, .slice fa P.length fc] 65)
 have kb := Blk.new w 65 #[.int .i64 (n : Int), .slice ca P.length cc, .slice fa P.length fc]
 have HR := Lib.hid (hr.new hb1)
 have HL := Lib.hid (hl.below hb1)
 have HLT := Lib.hid hlt
 have HND := Lib.hid hnd
 have HC := Lib.hid hc
 have HB1 := Lib.hid hb1
 have HCK := Lib.hid hck
 clear hr hl hb1 hlt hc hck hnd
 go_enter Tryz.func29, Tryz.ntmps29
 go_upto_region 1 with fail
 generalize w.alloc (.cells #[.int .i64 (n : Int), .slice ca P.length cc, .slice fa P.length fc] 65) = W0 at *
 go_wp2_with (at_make; refine wpList_make_full _ rfl _ _ 133 rfl W0.heap.size 4 i0 (.bool false) 1 Tryz.underlying133 hin hz0 hz1 .i64 .i64 _ _ 100 rfl rfl ?c1 ?c2 ?c3 ?c4 ?c5 ?_)
 case c1 => rfl
 case c2 => rfl
 case c3 => rw [hz2]; omega
 case c4 => unfold maxLen; omega
 case c5 => omega
 intro w5 hown hgrow
 have hb5 : Below W0.heap.size W0 w5 := (Below.refl _ _).grown hgrow (Nat.le_refl _) (fun k hk => by cases hk)
 have hbo : BoolB w5 W0.heap.size (inF 100 []) := by
  rcases hown.2 with ⟨e, _⟩ | ⟨g, cap, cur, e, _, hg, _, _, hsz, htk⟩
  ·cases e
  ·cases e
   exact boolB_made hg (by omega) (by simpa using htk)
 have HBO := Lib.hid hbo
 have HB5 := Lib.hid hb5
 clear hown hgrow hbo hb5
 generalize hg4 : W0.heap.size = g at *
 go_wp2_with fail
 go_loopw [9] (fun iV wr => ∃ (i : Nat), i <= ls.length /\ iV = .int .i64 (i : Int) /\ BoolB wr g (inF 100 (outP ls wo i)) /\ Below g W0 wr) (fun iV _ => ls.length - (intOf iV).toNat)
 case atStart => exact ⟨0, Nat.zero_le _, rfl, HBO.out, HB5.out⟩
 case round =>
  clear HBO HB5
  obtain ⟨i, hil, rfl, hbo, hbw⟩ := hrel
  by_cases hlt : i < ls.length
  ·have hii0 : (0 : Int) <= (i : Int) := by omega
   have hii1 : (i : Int) < (ls.length : Int) := by omega
   obtain ⟨ad, rfl, had, hcell⟩ := HL.out.below (hg4 ▸ hbw) i (by simpa [natI] using hlt)
   have hx := HLT.out (ls.getD i 0) (by rw [List.getD_eq_getElem?_getD, List.getElem?_eq_getElem hlt]; exact List.getElem_mem hlt)
   have hxe : (natI ls).getD i 0 = ((ls.getD i 0 : Nat) : Int) := by simp [natI, List.getD_eq_getElem?_getD, hlt]
   rw [hxe] at hcell
   have HBN := Lib.hid (hbo.put hx (outP_new HND.out hlt) ((i : Int) != wo))
   rw [<- outP_succ] at HBN
   obtain ⟨cur, g1, g2, g3⟩ := hbo
   rw [inF_len] at g2 g3
   have c0 := (g1.cell (ls.getD i 0)).trans (g3 _ hx)
   have f0 := g1.frozen (ls.getD i 0)
   have HBW : Hid (Below g W0 (wr.setCell ⟨g, ls.getD i 0, none⟩ (.bool ((i : Int) != wo)))) := hbw.setCell (p := ⟨g, ls.getD i 0, none⟩) (Nat.le_refl _) _
   clear g1 g2 g3 hxe hbw
   generalize (inF 100 (outP ls wo i)).getD (ls.getD i 0) false = bb at *
   generalize ls.getD i 0 = x at *
   have hx0 : (0 : Int) <= (x : Int) := by omega
   have hx1 : (x : Int) < 100 := by omega
   have hx2 : ¬ (x : Int) < 0 := by omega
   have hx3 : ¬ (100 : Int) <= (x : Int) := by omega
   obtain ⟨ab, ao, asp⟩ := ad
   go_wp2
   go_roundw
   case rel => exact ⟨i + 1, hlt, by go_num, HBN.out, HBW.out⟩
   case measure => simp [intOf]; omega
  ·obtain rfl : i = ls.length := by omega
   have hb0 : Below w.heap.size w wr := HB1.out.trans (hbw.mono (by rw [<- hg4]; exact HB1.out.size))
   have kb' := kb.below (hg4 ▸ hbw) kb.lt
   have HRS := Lib.hid (HR.out.new (hg4 ▸ hbw))
   have HBA := Lib.hid hbo.bools
   have HB0 := Lib.hid hb0
   have SC : Hid (∀ W, Below wr.heap.size wr W -> W.cell? ⟨w.heap.size, 0, none⟩ = some (.int .i64 (n : Int)) /\ W.cell? ⟨w.heap.size, 1, none⟩ = some (.slice ca P.length cc) /\ W.cell? ⟨w.heap.size, 2, none⟩ = some (.slice fa P.length fc)) := fun W h => ⟨(kb'.below h kb'.lt).cell 0, (kb'.below h kb'.lt).cell 1, (kb'.below h kb'.lt).cell 2⟩
   have HO : Hid (∀ W, Below wr.heap.size wr W -> Calls Tryz.prog 79 #[.agg #[.int .i64 (n : Int), .slice ca P.length cc, .slice fa P.length fc], .slice (some ⟨g, 0, none⟩) 100 100] W fun e w' => ∃ a2 c2, e = .returned (.slice a2 (ctOnly P (inF 100 (outP ls wo ls.length))).length c2) /\ (a2 = none -> c2 = 0) /\ ClsIn w' a2 (ctOnly P (inF 100 (outP ls wo ls.length))) /\ Below W.heap.size W w') := fun W hW => by
    have h := only_c B (n : Int) P (.slice ca P.length cc) (.slice fa P.length fc) (inF 100 (outP ls wo ls.length)) (some ⟨g, 0, none⟩) 100 W (HRS.out.new hW) (HBA.out.below hW (Nat.le_refl _)) hP HC.out
    rw [inF_len] at h
    refine h.mono fun e w' ⟨v', h1, h2, h3⟩ => ?_
    obtain ⟨cs, g1, g2⟩ := h2
    obtain ⟨a1, c1, e1, hn1, -⟩ := (rowAt_own g1).form
    subst e1
    exact ⟨a1, c1, h1, hn1, ClsK.cls (B := 0) (cap := c1) g2 (ownsRow_base g1 (Nat.zero_le _)), h3⟩
   have hkl : (ctOnly P (inF 100 (outP ls wo ls.length))).length <= 10000 := by have h1 := onlyP_len P (inF 100 (outP ls wo ls.length)) P.length; unfold onlyP at h1; rw [List.take_length] at h1; omega
   obtain ⟨KK, hKK⟩ : ∃ KK, ctOnly P (inF 100 (outP ls wo ls.length)) = KK := ⟨_, rfl⟩
   rw [hKK] at HO hkl HCK
   have HKK := Lib.hid hKK
   clear hKK
   have HS : Hid (∀ W a1 c1, (a1 = none -> c1 = 0) -> ClsIn W a1 KK -> Calls Tryz.prog 27 #[.int .i64 (n : Int), .slice a1 KK.length c1] W fun e w' => ∃ b nn pa pn pc er, e = .returned (.tuple #[.agg #[.bool b, .int .u64 nn, .slice pa pn pc], er]) /\ CanE n KK b er /\ Below W.heap.size W w') := fun W a1 c1 h0 h1 => solve_can n KK a1 c1 h0 W h1 (by omega) HCK.out
   have D0 : Below wr.heap.size wr wr.drew := (Below.refl _ _).drew
   have D0a : Below wr.heap.size wr (wr.alloc (.cells #[.bool false, .int .u64 0, .slice none 0 0] 71)).drew := ((Below.refl _ _).alloc (Nat.le_refl _) _).drew
   have k0a : Blk (wr.alloc (.cells #[.bool false, .int .u64 0, .slice none 0 0] 71)).drew wr.heap.size 71 #[.bool false, .int .u64 0, .slice none 0 0] := Blk.new wr 71 #[.bool false, .int .u64 0, .slice none 0 0]
   clear HRS HBA hbo hb0 hbw kb kb' HR HL HLT HND HC HCK HB1
   go_upto_region 8 with fail
   go_region_held3 (fun W => W.cell? ⟨w.heap.size, 0, none⟩ = some (.int .i64 (n : Int)) /\ W.cell? ⟨w.heap.size, 1, none⟩ = some (.slice ca P.length cc) /\ W.cell? ⟨w.heap.size, 2, none⟩ = some (.slice fa P.length fc)) (first | exact SC.out _ D0 | exact SC.out _ D0a | exact SC.out _ D1 | exact SC.out _ D1a | exact SC.out _ D2 | exact SC.out _ D2a | exact SC.out _ D2s)
    (first
     | ((with_reducible refine (HO.out _ D0).mono ?_); rintro e x1 ⟨a1, c1, rfl, hn1, hcl1, hb1⟩; have D1 : Below wr.heap.size wr x1 := D0.trans (hb1.mono D0.size); have D1a : Below wr.heap.size wr (x1.alloc (.cells #[.bool false, .int .u64 0, .slice none 0 0] 71)) := D1.alloc D1.size _; have hcl1a : ClsIn (x1.alloc (.cells #[.bool false, .int .u64 0, .slice none 0 0] 71)) a1 KK := hcl1.below (below_new _ _); have ka := Blk.new x1 71 #[.bool false, .int .u64 0, .slice none 0 0]; clear HO D0 D0a k0a hb1)
     | ((with_reducible refine (HO.out _ D0a).mono ?_); rintro e x1 ⟨a1, c1, rfl, hn1, hclz, hb1⟩; have D1 : Below wr.heap.size wr x1 := D0a.trans (hb1.mono D0a.size); have kz := k0a.below hb1 k0a.lt; clear HO D0 D0a k0a hb1)
     | ((with_reducible refine (HS.out _ _ _ hn1 hclz).mono ?_); rintro e x2 ⟨b, nn, pa, pn, pc, er, rfl, hcan, hb2⟩; have D2 : Below wr.heap.size wr x2 := D1.trans (hb2.mono D1.size); have D2s : Below wr.heap.size wr (((x2.setCell ⟨wr.heap.size, 0, none⟩ (.bool b)).setCell ⟨wr.heap.size, 1, none⟩ (.int .u64 nn)).setCell ⟨wr.heap.size, 2, none⟩ (.slice pa pn pc)) := ((D2.setCell (p := ⟨wr.heap.size, 0, none⟩) (Nat.le_refl _) _).setCell (p := ⟨wr.heap.size, 1, none⟩) (Nat.le_refl _) _).setCell (p := ⟨wr.heap.size, 2, none⟩) (Nat.le_refl _) _; obtain ⟨z0, f0, z1, f1, z2, f2, r0, r1, r2⟩ := put3 (kz.below hb2 kz.lt) (.bool b) (.int .u64 nn) (.slice pa pn pc); clear HS D1 hb2 hclz hn1 kz)
     | ((with_reducible refine (HS.out _ _ _ hn1 hcl1).mono ?_); rintro e x2 ⟨b, nn, pa, pn, pc, er, rfl, hcan, hb2⟩; have D2 : Below wr.heap.size wr x2 := D1.trans (hb2.mono D1.size); have D2a : Below wr.heap.size wr (x2.alloc (.cells #[.bool false, .int .u64 0, .slice none 0 0] 71)) := D2.alloc D2.size _; have D2s : Below wr.heap.size wr (x2.alloc (.cells #[.bool b, .int .u64 nn, .slice pa pn pc] 71)) := D2.alloc D2.size _; have r0 := (Blk.new x2 71 #[.bool b, .int .u64 nn, .slice pa pn pc]).cell 0; clear HS D1a D1 hb2 hcl1a hcl1 hn1 ka)
     | ((with_reducible refine (HS.out _ _ _ hn1 hcl1a).mono ?_); rintro e x2 ⟨b, nn, pa, pn, pc, er, rfl, hcan, hb2⟩; have D2 : Below wr.heap.size wr x2 := D1a.trans (hb2.mono D1a.size); have D2s : Below wr.heap.size wr (((x2.setCell ⟨x1.heap.size, 0, none⟩ (.bool b)).setCell ⟨x1.heap.size, 1, none⟩ (.int .u64 nn)).setCell ⟨x1.heap.size, 2, none⟩ (.slice pa pn pc)) := ((D2.setCell (p := ⟨x1.heap.size, 0, none⟩) D1.size _).setCell (p := ⟨x1.heap.size, 1, none⟩) D1.size _).setCell (p := ⟨x1.heap.size, 2, none⟩) D1.size _; obtain ⟨z0, f0, z1, f1, z2, f2, r0, r1, r2⟩ := put3 (ka.below hb2 ka.lt) (.bool b) (.int .u64 nn) (.slice pa pn pc); clear HS D1a D1 hb2 hcl1a hcl1 hn1 ka))
   all_goals
    have HFIN := Lib.hid D2s
    have HCN := Lib.hid hcan
    clear D2s
    rcases hcan.er with rfl | rfl
    ·clear hcan
     go_upto_region 9 with fail
     go_quiet (fail)
     go_wp2
     go_ret2
     exact ⟨_, .nilIface, true, rfl, by simp, by rw [HKK.out]; exact HCN.out, HB0.out.trans (below_drewN (HFIN.out.mono HB0.out.size) _)⟩
    ·clear hcan
     go_upto_region 9 with fail
     go_quiet (fail)
     go_wp2
     go_ret2
     exact ⟨_, .iface 34 (.int .i64 4), false, rfl, by simp, by rw [HKK.out]; exact HCN.out, HB0.out.trans (below_drewN (HFIN.out.mono HB0.out.size) _)⟩
end
section
open Go.RowKit Go.Deep Sv
def ReadRes (w : World) (r : Option (List Ln × List It)) (e : Ending) (w' : World) : Prop :=
 match r with
 | none => e = .returned (.tuple #[.pointer none, .agg #[.int .i64 0, .slice none 0 0, .slice none 0 0], .bool false]) /\ Below w.heap.size w w'
 | some (ls, its) => ∃ bc cv fv, e = .returned (.tuple #[.pointer (some ⟨bc, 0, none⟩), .agg #[.int .i64 (its.length : Int), cv, fv], .bool true]) /\ CatAt w' bc ls its /\ RS w.heap.size w' cv fv ((ofL its ls).map Prod.snd) ((ofL its ls).map Prod.fst) /\ Below w.heap.size w w'
theorem set3 {W : World} {b : Nat} {t : TypeId} {x y z : Value} (h : Blk W b t #[x, y, z]) (p q r : Value) : Blk (((W.setCell ⟨b, 0, none⟩ p).setCell ⟨b, 1, none⟩ q).setCell ⟨b, 2, none⟩ r) b t #[p, q, r] := ((h.set (i := 0)).set (i := 1)).set (i := 2)
theorem below3 {w W : World} (h : Below w.heap.size w W) (p q r : Value) : Below w.heap.size w (((W.setCell ⟨w.heap.size, 0, none⟩ p).setCell ⟨w.heap.size, 1, none⟩ q).setCell ⟨w.heap.size, 2, none⟩ r) :=
 ((h.setCell (p := ⟨w.heap.size, 0, none⟩) (Nat.le_refl _) _).setCell (p := ⟨w.heap.size, 1, none⟩) (Nat.le_refl _) _).setCell (p := ⟨w.heap.size, 2, none⟩) (Nat.le_refl _) _
theorem read_c (s : ByteArray) (most : Nat) (w : World) (hw : Lw w) : Calls Tryz.prog 25 #[.string s, .int .i64 (most : Int)] w (ReadRes w (readF s most)) := by
 obtain ⟨R, hR⟩ : ∃ R, readF s most = R := ⟨_, rfl⟩
 rw [hR]
 have HRF := Lib.hid hR
 have hb0 := below_new w (.cells #[.int .i64 0, .slice none 0 0, .slice none 0 0] 65)
 have k5 := Blk.new w 65 #[.int .i64 0, .slice none 0 0, .slice none 0 0]
 have HPA := Lib.hid (parse_any_c s (w.alloc (.cells #[.int .i64 0, .slice none 0 0, .slice none 0 0] 65)) (hw.below hb0))
 clear hR hw
 have K5 := Lib.hid k5
 have HB0 := Lib.hid hb0
 have hsz : (w.alloc (.cells #[.int .i64 0, .slice none 0 0, .slice none 0 0] 65)).heap.size = w.heap.size + 1 := World.size_alloc _ _
 go_enter Tryz.func25, Tryz.ntmps25
 go_upto_region 1 with fail
 generalize w.alloc (.cells #[.int .i64 0, .slice none 0 0, .slice none 0 0] 65) = W0 at *
 have hzs : (0 : Nat) = 0 := rfl
 by_cases hs : 1500 < s.size
 ·obtain rfl : R = none := by rw [<- HRF.out]; unfold readF; rw [if_pos hs]
  have hsi : (1500 : Int) < (s.size : Int) := by omega
  have f0 := k5.frozen 0
  have f1 := k5.frozen 1
  have f2 := k5.frozen 2
  have c0 : W0.cell? ⟨w.heap.size, 0, none⟩ = some (.int .i64 0) := k5.cell 0
  have c1 : W0.cell? ⟨w.heap.size, 1, none⟩ = some (.slice none 0 0) := k5.cell 1
  have c2 : W0.cell? ⟨w.heap.size, 2, none⟩ = some (.slice none 0 0) := k5.cell 2
  have Q0 := Lib.hid (set3 K5.out (.int .i64 0) (.slice none 0 0) (.slice none 0 0))
  have HB := Lib.hid (below3 HB0.out (.int .i64 0) (.slice none 0 0) (.slice none 0 0))
  clear k5 hb0 HPA
  go_wp2
  generalize ((W0.setCell ⟨w.heap.size, 0, none⟩ (.int .i64 0)).setCell ⟨w.heap.size, 1, none⟩ (.slice none 0 0)).setCell ⟨w.heap.size, 2, none⟩ (.slice none 0 0) = WG at *
  have r0 := Q0.out.cell 0
  have r1 := Q0.out.cell 1
  have r2 := Q0.out.cell 2
  refine bodyPost_ret (v := .tuple #[.pointer none, .agg #[.int .i64 0, .slice none 0 0, .slice none 0 0], .bool false]) (by simp [results, Tryz.f25, go_sem, r0, r1, r2]) rfl ?_
  exact ⟨rfl, HB.out⟩
 ·have hsi : ¬ (1500 : Int) < (s.size : Int) := by omega
  cases hp : parseF s with
  | error e2 =>
   obtain ⟨pk, pp⟩ := e2
   obtain rfl : R = none := by rw [<- HRF.out]; unfold readF; rw [if_neg hs, hp]
   rw [hp] at HPA
   have HP2 : Hid (Calls Tryz.prog 42 #[.string s] W0 fun e w' => ∃ er, e = .returned (.tuple #[.pointer none, er]) /\ ErrP w' er pk pp /\ Below W0.heap.size W0 w') := HPA.out
   clear hp HPA k5 hb0
   go_wp2_with fail
   refine HP2.out.mono ?_
   rintro e w1 ⟨er, rfl, herr, hb1⟩
   obtain ⟨et, ev, rfl⟩ := herr.form
   have hlt : w.heap.size < W0.heap.size := K5.out.lt
   have k5 := K5.out.below hb1 hlt
   have f0 := k5.frozen 0
   have f1 := k5.frozen 1
   have f2 := k5.frozen 2
   have c0 : w1.cell? ⟨w.heap.size, 0, none⟩ = some (.int .i64 0) := k5.cell 0
   have c1 : w1.cell? ⟨w.heap.size, 1, none⟩ = some (.slice none 0 0) := k5.cell 1
   have c2 : w1.cell? ⟨w.heap.size, 2, none⟩ = some (.slice none 0 0) := k5.cell 2
   have Q0 := Lib.hid (set3 k5 (.int .i64 0) (.slice none 0 0) (.slice none 0 0))
   have HB := Lib.hid (below3 (HB0.out.trans (hb1.mono HB0.out.size)) (.int .i64 0) (.slice none 0 0) (.slice none 0 0))
   clear k5 hb1 HP2 herr
   go_wp2
   generalize ((w1.setCell ⟨w.heap.size, 0, none⟩ (.int .i64 0)).setCell ⟨w.heap.size, 1, none⟩ (.slice none 0 0)).setCell ⟨w.heap.size, 2, none⟩ (.slice none 0 0) = WG at *
   have r0 := Q0.out.cell 0
   have r1 := Q0.out.cell 1
   have r2 := Q0.out.cell 2
   refine bodyPost_ret (v := .tuple #[.pointer none, .agg #[.int .i64 0, .slice none 0 0, .slice none 0 0], .bool false]) (by simp [results, Tryz.f25, go_sem, r0, r1, r2]) rfl ?_
   exact ⟨rfl, HB.out⟩
  | ok li =>
   obtain ⟨ls, its⟩ := li
   have hnw := newF_ok (parseF_ok hp)
   have hrf : R = if 200 < (ofL its ls).length \/ most < its.length then none else some (ls, its) := by rw [<- HRF.out]; unfold readF; rw [if_neg hs, hp]
   rw [hp] at HPA
   have HP2 : Hid (Calls Tryz.prog 42 #[.string s] W0 fun e w' => ∃ bc vs, e = .returned (.tuple #[.pointer (some ⟨bc, 0, none⟩), .nilIface]) /\ CatV w' bc ls vs its W0.heap.size /\ (∀ k, k < W0.heap.size -> RgN ls vs (some k)) /\ Below W0.heap.size W0 w') := HPA.out
   have HRR := Lib.hid hrf
   clear hp HPA k5 hb0 HRF hrf
   go_wp2_with fail
   refine HP2.out.mono ?_
   rintro e w1 ⟨bc, vs, rfl, hcat, hlow, hb1⟩
   have HOF := Lib.hid (of_c bc ls its w1 hcat.cat hnw.1 (by omega) (fun x hx => check_names (hnw.2.2 x hx)))
   have HCAT := Lib.hid hcat
   have HLOW := Lib.hid hlow
   have HB1 := Lib.hid hb1
   have hs1 := hb1.size
   have hlt : w.heap.size < W0.heap.size := K5.out.lt
   have K51 := Lib.hid (K5.out.below hb1 hlt)
   have hn24 := hnw.1
   clear HP2 hcat hlow hb1 hnw K5
   obtain ⟨PF, hPF⟩ : ∃ PF, ofL its ls = PF := ⟨_, rfl⟩
   rw [hPF] at HOF HRR
   have HPF := Lib.hid hPF
   clear hPF
   go_wp2_with fail
   refine HOF.out.mono ?_
   intro e w2 hres
   rcases hres with ⟨hbig, rfl, hb2⟩ | ⟨hbig, cv, fv, rfl, hrs, hb2⟩
   ·obtain rfl : R = none := by rw [HRR.out, if_pos (Or.inl hbig)]
    have k5 := ((K51.out.below hb2 K51.out.lt).alloc (.cells #[.int .i64 0, .slice none 0 0, .slice none 0 0] 65))
    have hbn := below_new w2 (.cells #[.int .i64 0, .slice none 0 0, .slice none 0 0] 65)
    have HBX := Lib.hid ((HB0.out.trans (HB1.out.mono HB0.out.size)).trans (hb2.mono (by have := HB0.out.size; omega)))
    have HBY := Lib.hid (HBX.out.trans (hbn.mono HBX.out.size))
    have K5 := Lib.hid k5
    clear k5 hbn hb2 HOF K51 HCAT HLOW HB1
    go_upto_region 7 with fail
    generalize w2.alloc (.cells #[.int .i64 0, .slice none 0 0, .slice none 0 0] 65) = W3 at *
    have k5 := K5.out
    have f0 := k5.frozen 0
    have f1 := k5.frozen 1
    have f2 := k5.frozen 2
    have c0 : W3.cell? ⟨w.heap.size, 0, none⟩ = some (.int .i64 0) := k5.cell 0
    have c1 : W3.cell? ⟨w.heap.size, 1, none⟩ = some (.slice none 0 0) := k5.cell 1
    have c2 : W3.cell? ⟨w.heap.size, 2, none⟩ = some (.slice none 0 0) := k5.cell 2
    have Q0 := Lib.hid (set3 k5 (.int .i64 0) (.slice none 0 0) (.slice none 0 0))
    have HB := Lib.hid (below3 HBY.out (.int .i64 0) (.slice none 0 0) (.slice none 0 0))
    clear k5
    go_wp2
    generalize ((W3.setCell ⟨w.heap.size, 0, none⟩ (.int .i64 0)).setCell ⟨w.heap.size, 1, none⟩ (.slice none 0 0)).setCell ⟨w.heap.size, 2, none⟩ (.slice none 0 0) = WG at *
    have r0 := Q0.out.cell 0
    have r1 := Q0.out.cell 1
    have r2 := Q0.out.cell 2
    refine bodyPost_ret (v := .tuple #[.pointer none, .agg #[.int .i64 0, .slice none 0 0, .slice none 0 0], .bool false]) (by simp [results, Tryz.f25, go_sem, r0, r1, r2]) rfl ?_
    exact ⟨rfl, HB.out⟩
   ·obtain ⟨ca, cc, rfl⟩ : ∃ a c, cv = .slice a PF.length c := by obtain ⟨cs, h1, _⟩ := hrs.crow; obtain ⟨a, c, e, _⟩ := (rowAt_own h1).form; exact ⟨a, c, by simpa using e⟩
    obtain ⟨fa, fc, rfl⟩ : ∃ a c, fv = .slice a PF.length c := by obtain ⟨a, c, e, _⟩ := (rowAt_own hrs.frow).form; exact ⟨a, c, by simpa using e⟩
    have hbn := below_new w2 (.cells #[.int .i64 (its.length : Int), .slice ca PF.length cc, .slice fa PF.length fc] 65)
    have k5 := ((K51.out.below hb2 K51.out.lt).alloc (.cells #[.int .i64 (its.length : Int), .slice ca PF.length cc, .slice fa PF.length fc] 65))
    have k9 := Blk.new w2 65 #[.int .i64 (its.length : Int), .slice ca PF.length cc, .slice fa PF.length fc]
    have HBX := Lib.hid ((HB0.out.trans (HB1.out.mono HB0.out.size)).trans (hb2.mono (by have := HB0.out.size; omega)))
    have HBY := Lib.hid (HBX.out.trans (hbn.mono HBX.out.size))
    have HRS := Lib.hid (hrs.new hbn)
    have HCA := Lib.hid ((HCAT.out.below hb2 (Nat.le_refl _)).below hbn (Nat.le_refl _))
    have K5 := Lib.hid k5
    have K9 := Lib.hid k9
    have h29 : w1.heap.size <= w2.heap.size := hb2.size
    clear k5 k9 hbn hb2 HOF K51 HCAT hrs HB1
    go_upto_region 7 with fail
    generalize w2.alloc (.cells #[.int .i64 (its.length : Int), .slice ca PF.length cc, .slice fa PF.length fc] 65) = W3 at *
    generalize w2.heap.size = b9 at *
    have k5 := K5.out
    have f0 := k5.frozen 0
    have f1 := k5.frozen 1
    have f2 := k5.frozen 2
    have c0 : W3.cell? ⟨w.heap.size, 0, none⟩ = some (.int .i64 0) := k5.cell 0
    have c1 : W3.cell? ⟨w.heap.size, 1, none⟩ = some (.slice none 0 0) := k5.cell 1
    have c2 : W3.cell? ⟨w.heap.size, 2, none⟩ = some (.slice none 0 0) := k5.cell 2
    have e0 : W3.cell? ⟨b9, 0, none⟩ = some (.int .i64 (its.length : Int)) := K9.out.cell 0
    have e1 : W3.cell? ⟨b9, 1, none⟩ = some (.slice ca PF.length cc) := K9.out.cell 1
    have e2 : W3.cell? ⟨b9, 2, none⟩ = some (.slice fa PF.length fc) := K9.out.cell 2
    clear k5
    by_cases hmo : most < its.length
    ·obtain rfl : R = none := by rw [HRR.out, if_pos (Or.inr hmo)]
     have hmi : (most : Int) < (its.length : Int) := by omega
     have Q0 := Lib.hid (set3 K5.out (.int .i64 0) (.slice none 0 0) (.slice none 0 0))
     have HB := Lib.hid (below3 HBY.out (.int .i64 0) (.slice none 0 0) (.slice none 0 0))
     clear HCA HRS HLOW
     go_wp2
     generalize ((W3.setCell ⟨w.heap.size, 0, none⟩ (.int .i64 0)).setCell ⟨w.heap.size, 1, none⟩ (.slice none 0 0)).setCell ⟨w.heap.size, 2, none⟩ (.slice none 0 0) = WG at *
     have r0 := Q0.out.cell 0
     have r1 := Q0.out.cell 1
     have r2 := Q0.out.cell 2
     refine bodyPost_ret (v := .tuple #[.pointer none, .agg #[.int .i64 0, .slice none 0 0, .slice none 0 0], .bool false]) (by simp [results, Tryz.f25, go_sem, r0, r1, r2]) rfl ?_
     exact ⟨rfl, HB.out⟩
    ·obtain rfl : R = some (ls, its) := by rw [HRR.out, if_neg (by omega)]
     have hmi : ¬ (most : Int) < (its.length : Int) := by omega
     have hkl : w.heap.size < w1.heap.size := by omega
     have q0 := set3 K5.out (.int .i64 (its.length : Int)) (.slice ca PF.length cc) (.slice fa PF.length fc)
     have hB := below3 HBY.out (.int .i64 (its.length : Int)) (.slice ca PF.length cc) (.slice fa PF.length fc)
     have hR := ((HRS.out.set (i := 0) (v := .int .i64 (its.length : Int)) K5.out hkl).set (i := 1) (v := .slice ca PF.length cc) (K5.out.set (i := 0)) hkl).set (i := 2) (v := .slice fa PF.length fc) ((K5.out.set (i := 0)).set (i := 1)) hkl
     have hCA := ((HCA.out.set (k := w.heap.size) (i := 0) (x := .int .i64 (its.length : Int)) hlt (HLOW.out _ hlt)).set (k := w.heap.size) (i := 1) (x := .slice ca PF.length cc) hlt (HLOW.out _ hlt)).set (k := w.heap.size) (i := 2) (x := .slice fa PF.length fc) hlt (HLOW.out _ hlt)
     have Q0 : Hid (Blk (((W3.setCell ⟨w.heap.size, 0, none⟩ (.int .i64 (its.length : Int))).setCell ⟨w.heap.size, 1, none⟩ (.slice ca PF.length cc)).setCell ⟨w.heap.size, 2, none⟩ (.slice fa PF.length fc)).drew w.heap.size 65 #[.int .i64 (its.length : Int), .slice ca PF.length cc, .slice fa PF.length fc]) := q0
     have HB : Hid (Below w.heap.size w (((W3.setCell ⟨w.heap.size, 0, none⟩ (.int .i64 (its.length : Int))).setCell ⟨w.heap.size, 1, none⟩ (.slice ca PF.length cc)).setCell ⟨w.heap.size, 2, none⟩ (.slice fa PF.length fc)).drew) := hB.drew
     have hbd : Below (((W3.setCell ⟨w.heap.size, 0, none⟩ (.int .i64 (its.length : Int))).setCell ⟨w.heap.size, 1, none⟩ (.slice ca PF.length cc)).setCell ⟨w.heap.size, 2, none⟩ (.slice fa PF.length fc)).heap.size (((W3.setCell ⟨w.heap.size, 0, none⟩ (.int .i64 (its.length : Int))).setCell ⟨w.heap.size, 1, none⟩ (.slice ca PF.length cc)).setCell ⟨w.heap.size, 2, none⟩ (.slice fa PF.length fc)) (((W3.setCell ⟨w.heap.size, 0, none⟩ (.int .i64 (its.length : Int))).setCell ⟨w.heap.size, 1, none⟩ (.slice ca PF.length cc)).setCell ⟨w.heap.size, 2, none⟩ (.slice fa PF.length fc)).drew := (Below.refl _ _).drew
     have HR3 : Hid (RS w.heap.size (((W3.setCell ⟨w.heap.size, 0, none⟩ (.int .i64 (its.length : Int))).setCell ⟨w.heap.size, 1, none⟩ (.slice ca PF.length cc)).setCell ⟨w.heap.size, 2, none⟩ (.slice fa PF.length fc)).drew (.slice ca PF.length cc) (.slice fa PF.length fc) (PF.map Prod.snd) (PF.map Prod.fst)) := (hR.new hbd).base (Nat.le_of_lt hkl)
     have HC3 : Hid (CatAt (((W3.setCell ⟨w.heap.size, 0, none⟩ (.int .i64 (its.length : Int))).setCell ⟨w.heap.size, 1, none⟩ (.slice ca PF.length cc)).setCell ⟨w.heap.size, 2, none⟩ (.slice fa PF.length fc)).drew bc ls its) := (hCA.below hbd (Nat.le_refl _)).cat
     clear q0 hB hR hCA hbd HRS HCA HLOW
     go_upto_region 9 with fail
     go_big_region
     generalize (((W3.setCell ⟨w.heap.size, 0, none⟩ (.int .i64 (its.length : Int))).setCell ⟨w.heap.size, 1, none⟩ (.slice ca PF.length cc)).setCell ⟨w.heap.size, 2, none⟩ (.slice fa PF.length fc)).drew = WG at *
     go_wp2
     have r0 := Q0.out.cell 0
     have r1 := Q0.out.cell 1
     have r2 := Q0.out.cell 2
     refine bodyPost_ret (v := .tuple #[.pointer (some ⟨bc, 0, none⟩), .agg #[.int .i64 (its.length : Int), .slice ca PF.length cc, .slice fa PF.length fc], .bool true]) (by simp [results, Tryz.f25, go_sem, r0, r1, r2]) rfl ?_
     refine ⟨bc, _, _, rfl, HC3.out, ?_, HB.out⟩
     rw [HPF.out]
     exact HR3.out
end
end Go.Proofs.YtpmpnbbihmgdpaaGreatDoor
