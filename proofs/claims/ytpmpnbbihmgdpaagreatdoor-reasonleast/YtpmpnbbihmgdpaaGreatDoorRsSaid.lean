/- reason: what a catalog says. -/
import Derived.Test.YtpmpnbbihmgdpaaGreatDoorClSearch
import Derived.Test.YtpmpnbbihmgdpaaGreatDoorClSolve
set_option maxHeartbeats 4000000
set_option maxRecDepth 100000
namespace Go.Proofs.YtpmpnbbihmgdpaaGreatDoor
section
open Go.RowKit Go.Deep Sv
def inF (m : Nat) (ls : List Nat) : List Bool := (List.range m).map fun i => decide (i ∈ ls)
def natI (ls : List Nat) : List Int := ls.map fun n : Nat => (n : Int)
theorem inF_len (m : Nat) (ls : List Nat) : (inF m ls).length = m := by simp [inF]
theorem inF_at {m i : Nat} (ls : List Nat) (h : i < m) : (inF m ls).getD i false = decide (i ∈ ls) := by simp [inF, List.getD_eq_getElem?_getD, h]
def BoolB (W : World) (g : Nat) (bs : List Bool) : Prop := ∃ cur, Blk W g 4 cur /\ cur.size = bs.length /\ ∀ j, j < bs.length -> cur[j]? = some (.bool (bs.getD j false))
theorem BoolB.bools {W : World} {g : Nat} {bs : List Bool} (h : BoolB W g bs) : BoolsIn W (some ⟨g, 0, none⟩) bs := fun j hj => by
 obtain ⟨cur, h1, _, h3⟩ := h
 exact ⟨_, rfl, h1.lt, by rw [add_plain, Nat.zero_add, h1.cell j, h3 j hj]⟩
theorem BoolB.tell {W : World} {g m : Nat} {ls : List Nat} (h : BoolB W g (inF m ls)) {n : Nat} (hn : n < m) : BoolB (W.setCell ⟨g, n, none⟩ (.bool true)) g (inF m (ls ++ [n])) := by
 obtain ⟨cur, h1, h2, h3⟩ := h
 rw [inF_len] at h2 h3
 refine ⟨_, h1.set, by rw [Array.size_setIfInBounds, inF_len, h2], fun j hj => ?_⟩
 rw [inF_len] at hj
 rw [Array.getElem?_setIfInBounds, inF_at _ hj]
 by_cases e : n = j
 ·subst e
  rw [if_pos rfl, if_pos (by omega)]
  simp
 ·rw [if_neg e, h3 j hj, inF_at _ hj]
  have : (j ∈ ls ++ [n]) ↔ j ∈ ls := by simp; exact fun h => absurd h.symm e
  simp only [this]
theorem made_at (m i : Nat) (h : i < m) : (madeCells #[.bool false] m)[i]? = some (.bool false) := by
 simp [madeCells, h, Nat.mod_one]
theorem boolB_made {W : World} {g m : Nat} {cur : Array Value} (h1 : Blk W g 4 cur) (h2 : cur.size = m) (h3 : cur.toList.take m = (madeCells #[.bool false] m).toList) : BoolB W g (inF m []) := by
 refine ⟨cur, h1, by rw [inF_len, h2], fun j hj => ?_⟩
 rw [inF_len] at hj
 rw [inF_at _ hj]
 have e := congrArg (fun l => l[j]?) h3
 simp only [List.getElem?_take, if_pos hj] at e
 rw [Array.getElem?_toList, Array.getElem?_toList, made_at m j hj] at e
 rw [e]
 simp
def CanE (v : Nat) (l : List (List Int)) (b : Bool) (er : Value) : Prop :=
 ∃ r, Run v l st0 r /\ ((∃ t, r = .sat t /\ b = true /\ er = .nilIface) \/ (∃ p, r = .unsat p /\ b = false /\ er = .nilIface) \/ (r = .limit /\ b = false /\ er = .iface 34 (.int .i64 4)))
theorem solve_can (v : Nat) (l : List (List Int)) (a : Option Addr) (cap : Nat) (hn : a = none -> cap = 0) (w : World) (hI : ClsIn w a l) (hm : l.length <= 9223372036854775807) (hc : (checkF v l).1 = 0) :
  Calls Tryz.prog 27 #[.int .i64 v, .slice a l.length cap] w fun e w' => ∃ b nn pa pn pc er, e = .returned (.tuple #[.agg #[.bool b, .int .u64 nn, .slice pa pn pc], er]) /\ CanE v l b er /\ Below w.heap.size w w' := by
 refine (solve_any v l a cap hn w hI hm).mono ?_
 rintro e w' ⟨hs, hb⟩
 rcases hs with ⟨h, _⟩ | ⟨-, r, hr, h⟩
 ·exact absurd hc h
 ·rw [Int.toNat_natCast] at hr
  rcases h with ⟨t, rfl, rfl⟩ | ⟨p, pa, pc, rfl, rfl, -⟩ | ⟨rfl, rfl⟩
  ·exact ⟨_, _, _, _, _, _, rfl, ⟨_, hr, Or.inl ⟨t, rfl, rfl, rfl⟩⟩, hb⟩
  ·exact ⟨_, _, _, _, _, _, rfl, ⟨_, hr, Or.inr (Or.inl ⟨p, rfl, rfl, rfl⟩)⟩, hb⟩
  ·exact ⟨_, _, _, _, _, _, rfl, ⟨_, hr, Or.inr (Or.inr ⟨rfl, rfl, rfl⟩)⟩, hb⟩
theorem infoBoolR : (Tryz.prog.info? 4).map (fun i => (i.zero, i.size, i.bytes)) = some (some (.bool false), 1, 1) := by kernel_rfl
theorem can_c (B n : Nat) (P : List (Int × List Int)) (cv fv : Value) (m : Nat) (ls : List Nat) (la : Option Addr) (lc : Nat) (sa : Option Addr) (sn sc : Nat) (w : World) (hr : RS B w cv fv (P.map Prod.snd) (P.map Prod.fst)) (hl : IntsIn w la (natI ls)) (hlt : ∀ x ∈ ls, x < m) (hm : m <= 1000) (hll : ls.length <= 100000) (hP : P.length <= 10000) (hc : ∀ x ∈ P, x.2.length <= 1000) (hck : (checkF n (ctOnly P (inF m ls))).1 = 0) :
  Calls Tryz.prog 48 #[.agg #[.int .i64 (n : Int), cv, fv, .slice sa sn sc, .int .i64 (m : Int)], .slice la ls.length lc] w fun e w' => ∃ b er, e = .returned (.tuple #[.bool b, er]) /\ CanE n (ctOnly P (inF m ls)) b er /\ Below w.heap.size w w' := by
 obtain ⟨ca, cc, rfl, -⟩ : ∃ a c, cv = .slice a P.length c /\ True := by obtain ⟨cs, h1, _⟩ := hr.crow; obtain ⟨a, c, e, _⟩ := (rowAt_own h1).form; exact ⟨a, c, by simpa using e, trivial⟩
 obtain ⟨fa, fc, rfl, -⟩ : ∃ a c, fv = .slice a P.length c /\ True := by obtain ⟨a, c, e, _⟩ := (rowAt_own hr.frow).form; exact ⟨a, c, by simpa using e, trivial⟩
 obtain ⟨i0, hin, hz0, hz1, hz2⟩ := info_parts infoBoolR
 have hb1 := below_new w (.cells #[.int .i64 (n : Int), .slice ca P.length cc, .slice fa P.length fc, .slice sa sn sc, .int .i64 (m : Int)] 111)
 have kb := Blk.new w 111 #[.int .i64 (n : Int), .slice ca P.length cc, .slice fa P.length fc, .slice sa sn sc, .int .i64 (m : Int)]
 have HR := Lib.hid (hr.new hb1)
 have HL := Lib.hid (hl.below hb1)
 have HLT := Lib.hid hlt
 have HC := Lib.hid hc
 have HB1 := Lib.hid hb1
 have HCK := Lib.hid hck
 have hmi : (0 : Int) <= (m : Int) := by omega
 clear hr hl hb1 hlt hc hck
 go_enter Tryz.func48, Tryz.ntmps48
 go_upto_region 1 with fail
 generalize w.alloc (.cells #[.int .i64 (n : Int), .slice ca P.length cc, .slice fa P.length fc, .slice sa sn sc, .int .i64 (m : Int)] 111) = W0 at *
 have c4 : W0.cell? ⟨w.heap.size, 4, none⟩ = some (.int .i64 (m : Int)) := kb.cell 4
 go_wp2_with (at_make; refine wpList_make_full _ rfl _ _ 133 rfl W0.heap.size 4 i0 (.bool false) 1 Tryz.underlying133 hin hz0 hz1 .i64 .i64 _ _ m rfl rfl ?c1 ?c2 ?c3 ?c4 ?c5 ?_)
 case c1 => rfl
 case c2 => rfl
 case c3 => rw [hz2]; omega
 case c4 => unfold maxLen; omega
 case c5 => omega
 intro w5 hown hgrow
 have hb5 : Below W0.heap.size W0 w5 := (Below.refl _ _).grown hgrow (Nat.le_refl _) (fun k hk => by cases hk)
 have hbo : BoolB w5 W0.heap.size (inF m []) := by
  rcases hown.2 with ⟨e, _⟩ | ⟨g, cap, cur, e, _, hg, _, _, hsz, htk⟩
  ·cases e
  ·cases e
   exact boolB_made hg (by omega) (by simpa using htk)
 have HBO := Lib.hid hbo
 have HB5 := Lib.hid hb5
 clear hown hgrow hbo hb5 c4
 generalize hg4 : W0.heap.size = g at *
 go_wp2_with fail
 go_loopw [16] (fun iV wr => ∃ (i : Nat), i <= ls.length /\ iV = .int .i64 (i : Int) /\ BoolB wr g (inF m (ls.take i)) /\ Below g W0 wr) (fun iV _ => ls.length - (intOf iV).toNat)
 case atStart => exact ⟨0, Nat.zero_le _, rfl, by simpa using HBO.out, HB5.out⟩
 case round =>
  clear HBO HB5
  obtain ⟨i, hil, rfl, hbo, hbw⟩ := hrel
  by_cases hlt : i < ls.length
  ·have hii0 : (0 : Int) <= (i : Int) := by omega
   have hii1 : (i : Int) < (ls.length : Int) := by omega
   obtain ⟨ad, rfl, had, hcell⟩ := HL.out.below (hg4 ▸ hbw) i (by simpa [natI] using hlt)
   have hx := HLT.out (ls.getD i 0) (by rw [List.getD_eq_getElem?_getD, List.getElem?_eq_getElem hlt]; exact List.getElem_mem hlt)
   have hxe : (natI ls).getD i 0 = ((ls.getD i 0 : Nat) : Int) := by simp [natI, List.getD_eq_getElem?_getD, hlt]
   rw [hxe] at hcell
   have htk : ls.take (i + 1) = ls.take i ++ [ls.getD i 0] := by rw [List.take_add_one, List.getD_eq_getElem?_getD, List.getElem?_eq_getElem hlt]; rfl
   have HBN := Lib.hid (hbo.tell hx)
   rw [<- htk] at HBN
   obtain ⟨cur, g1, g2, g3⟩ := hbo
   rw [inF_len] at g2 g3
   have c0 := (g1.cell (ls.getD i 0)).trans (g3 _ hx)
   have f0 := g1.frozen (ls.getD i 0)
   have HBW : Hid (Below g W0 (wr.setCell ⟨g, ls.getD i 0, none⟩ (.bool true))) := hbw.setCell (p := ⟨g, ls.getD i 0, none⟩) (Nat.le_refl _) _
   clear g1 g2 g3 hxe htk hbw
   generalize (inF m (ls.take i)).getD (ls.getD i 0) false = bb at *
   generalize ls.getD i 0 = x at *
   have hx0 : (0 : Int) <= (x : Int) := by omega
   have hx1 : (x : Int) < (m : Int) := by omega
   obtain ⟨ab, ao, asp⟩ := ad
   go_wp2
   go_roundw
   case rel => exact ⟨i + 1, hlt, by go_num, HBN.out, HBW.out⟩
   case measure => simp [intOf]; omega
  ·obtain rfl : i = ls.length := by omega
   rw [List.take_length] at hbo
   have hb0 : Below w.heap.size w wr := HB1.out.trans (hbw.mono (by rw [<- hg4]; exact HB1.out.size))
   have kb' := kb.below (hg4 ▸ hbw) kb.lt
   have HRS := Lib.hid (HR.out.new (hg4 ▸ hbw))
   have HBA := Lib.hid hbo.bools
   have HB0 := Lib.hid hb0
   have SC : Hid (∀ W, Below wr.heap.size wr W -> W.cell? ⟨w.heap.size, 0, none⟩ = some (.int .i64 (n : Int)) /\ W.cell? ⟨w.heap.size, 1, none⟩ = some (.slice ca P.length cc) /\ W.cell? ⟨w.heap.size, 2, none⟩ = some (.slice fa P.length fc)) := fun W h => ⟨(kb'.below h kb'.lt).cell 0, (kb'.below h kb'.lt).cell 1, (kb'.below h kb'.lt).cell 2⟩
   have HO : Hid (∀ W, Below wr.heap.size wr W -> Calls Tryz.prog 79 #[.agg #[.int .i64 (n : Int), .slice ca P.length cc, .slice fa P.length fc], .slice (some ⟨g, 0, none⟩) m m] W fun e w' => ∃ a2 c2, e = .returned (.slice a2 (ctOnly P (inF m ls)).length c2) /\ (a2 = none -> c2 = 0) /\ ClsIn w' a2 (ctOnly P (inF m ls)) /\ Below W.heap.size W w') := fun W hW => by
    have h := only_c B (n : Int) P (.slice ca P.length cc) (.slice fa P.length fc) (inF m ls) (some ⟨g, 0, none⟩) m W (HRS.out.new hW) (HBA.out.below hW (Nat.le_refl _)) hP HC.out
    rw [inF_len] at h
    refine h.mono fun e w' ⟨v', h1, h2, h3⟩ => ?_
    obtain ⟨cs, g1, g2⟩ := h2
    obtain ⟨a1, c1, e1, hn1, -⟩ := (rowAt_own g1).form
    subst e1
    exact ⟨a1, c1, h1, hn1, ClsK.cls (B := 0) (cap := c1) g2 (ownsRow_base g1 (Nat.zero_le _)), h3⟩
   have hkl : (ctOnly P (inF m ls)).length <= 10000 := by have h1 := onlyP_len P (inF m ls) P.length; unfold onlyP at h1; rw [List.take_length] at h1; omega
   obtain ⟨KK, hKK⟩ : ∃ KK, ctOnly P (inF m ls) = KK := ⟨_, rfl⟩
   rw [hKK] at HO hkl HCK
   have HKK := Lib.hid hKK
   clear hKK
   have HS : Hid (∀ W a1 c1, (a1 = none -> c1 = 0) -> ClsIn W a1 KK -> Calls Tryz.prog 27 #[.int .i64 (n : Int), .slice a1 KK.length c1] W fun e w' => ∃ b nn pa pn pc er, e = .returned (.tuple #[.agg #[.bool b, .int .u64 nn, .slice pa pn pc], er]) /\ CanE n KK b er /\ Below W.heap.size W w') := fun W a1 c1 h0 h1 => solve_can n KK a1 c1 h0 W h1 (by omega) HCK.out
   have D0 : Below wr.heap.size wr wr.drew := (Below.refl _ _).drew
   have D0a : Below wr.heap.size wr (wr.alloc (.cells #[.bool false, .int .u64 0, .slice none 0 0] 71)).drew := ((Below.refl _ _).alloc (Nat.le_refl _) _).drew
   have k0a : Blk (wr.alloc (.cells #[.bool false, .int .u64 0, .slice none 0 0] 71)).drew wr.heap.size 71 #[.bool false, .int .u64 0, .slice none 0 0] := Blk.new wr 71 #[.bool false, .int .u64 0, .slice none 0 0]
   clear HRS HBA hbo hb0 hbw kb kb' HR HL HLT HC HCK HB1
   go_upto_region 7 with fail
   go_region_held3 (fun W => W.cell? ⟨w.heap.size, 0, none⟩ = some (.int .i64 (n : Int)) /\ W.cell? ⟨w.heap.size, 1, none⟩ = some (.slice ca P.length cc) /\ W.cell? ⟨w.heap.size, 2, none⟩ = some (.slice fa P.length fc)) (first | exact SC.out _ D0 | exact SC.out _ D0a | exact SC.out _ D1 | exact SC.out _ D1a | exact SC.out _ D2 | exact SC.out _ D2a | exact SC.out _ D2s)
    (first
     | ((with_reducible refine (HO.out _ D0).mono ?_); rintro e x1 ⟨a1, c1, rfl, hn1, hcl1, hb1⟩; have D1 : Below wr.heap.size wr x1 := D0.trans (hb1.mono D0.size); have D1a : Below wr.heap.size wr (x1.alloc (.cells #[.bool false, .int .u64 0, .slice none 0 0] 71)) := D1.alloc D1.size _; have hcl1a : ClsIn (x1.alloc (.cells #[.bool false, .int .u64 0, .slice none 0 0] 71)) a1 KK := hcl1.below (below_new _ _); have ka := Blk.new x1 71 #[.bool false, .int .u64 0, .slice none 0 0]; clear HO D0 D0a k0a hb1)
     | ((with_reducible refine (HO.out _ D0a).mono ?_); rintro e x1 ⟨a1, c1, rfl, hn1, hclz, hb1⟩; have D1 : Below wr.heap.size wr x1 := D0a.trans (hb1.mono D0a.size); have kz := k0a.below hb1 k0a.lt; clear HO D0 D0a k0a hb1)
     | ((with_reducible refine (HS.out _ _ _ hn1 hclz).mono ?_); rintro e x2 ⟨b, nn, pa, pn, pc, er, rfl, hcan, hb2⟩; have D2 : Below wr.heap.size wr x2 := D1.trans (hb2.mono D1.size); have D2s : Below wr.heap.size wr (((x2.setCell ⟨wr.heap.size, 0, none⟩ (.bool b)).setCell ⟨wr.heap.size, 1, none⟩ (.int .u64 nn)).setCell ⟨wr.heap.size, 2, none⟩ (.slice pa pn pc)) := ((D2.setCell (p := ⟨wr.heap.size, 0, none⟩) (Nat.le_refl _) _).setCell (p := ⟨wr.heap.size, 1, none⟩) (Nat.le_refl _) _).setCell (p := ⟨wr.heap.size, 2, none⟩) (Nat.le_refl _) _; obtain ⟨z0, f0, z1, f1, z2, f2, r0, r1, r2⟩ := put3 (kz.below hb2 kz.lt) (.bool b) (.int .u64 nn) (.slice pa pn pc); clear HS D1 hb2 hclz hn1 kz)
     | ((with_reducible refine (HS.out _ _ _ hn1 hcl1).mono ?_); rintro e x2 ⟨b, nn, pa, pn, pc, er, rfl, hcan, hb2⟩; have D2 : Below wr.heap.size wr x2 := D1.trans (hb2.mono D1.size); have D2a : Below wr.heap.size wr (x2.alloc (.cells #[.bool false, .int .u64 0, .slice none 0 0] 71)) := D2.alloc D2.size _; have D2s : Below wr.heap.size wr (x2.alloc (.cells #[.bool b, .int .u64 nn, .slice pa pn pc] 71)) := D2.alloc D2.size _; have r0 := (Blk.new x2 71 #[.bool b, .int .u64 nn, .slice pa pn pc]).cell 0; clear HS D1a D1 hb2 hcl1a hcl1 hn1 ka)
     | ((with_reducible refine (HS.out _ _ _ hn1 hcl1a).mono ?_); rintro e x2 ⟨b, nn, pa, pn, pc, er, rfl, hcan, hb2⟩; have D2 : Below wr.heap.size wr x2 := D1a.trans (hb2.mono D1a.size); have D2s : Below wr.heap.size wr (((x2.setCell ⟨x1.heap.size, 0, none⟩ (.bool b)).setCell ⟨x1.heap.size, 1, none⟩ (.int .u64 nn)).setCell ⟨x1.heap.size, 2, none⟩ (.slice pa pn pc)) := ((D2.setCell (p := ⟨x1.heap.size, 0, none⟩) D1.size _).setCell (p := ⟨x1.heap.size, 1, none⟩) D1.size _).setCell (p := ⟨x1.heap.size, 2, none⟩) D1.size _; obtain ⟨z0, f0, z1, f1, z2, f2, r0, r1, r2⟩ := put3 (ka.below hb2 ka.lt) (.bool b) (.int .u64 nn) (.slice pa pn pc); clear HS D1a D1 hb2 hcl1a hcl1 hn1 ka))
   all_goals
    have HFIN := Lib.hid D2s
    have HCN := Lib.hid hcan
    clear D2s hcan
    go_wp2
    go_ret2
    exact ⟨_, _, rfl, by rw [HKK.out]; exact HCN.out, HB0.out.trans (HFIN.out.mono HB0.out.size)⟩
end
section
open Go.RowKit Go.Deep Sv
def saidP (ls : List Ln) (i : Nat) : List Nat := (List.range i).filter fun n => (ls.getD n default).kind != 1
def saidF (ls : List Ln) : List Nat := saidP ls ls.length
theorem saidP_succ (ls : List Ln) (i : Nat) : saidP ls (i + 1) = saidP ls i ++ (if (ls.getD i default).kind != 1 then [i] else []) := by
 unfold saidP
 rw [List.range_succ, List.filter_append]
 congr 1
 by_cases h : ((ls.getD i default).kind != 1) = true
 ·rw [if_pos h, List.filter_cons, if_pos h, List.filter_nil]
 ·rw [if_neg h, List.filter_cons, if_neg h, List.filter_nil]
theorem saidP_len (ls : List Ln) (i : Nat) : (saidP ls i).length <= i := by
 unfold saidP
 refine Nat.le_trans (List.length_filter_le _ _) ?_
 simp
theorem saidP_lt (ls : List Ln) (i : Nat) : ∀ x ∈ saidP ls i, x < i := fun x hx => by
 unfold saidP at hx
 simpa using (List.mem_filter.1 hx).1
theorem natI_len (l : List Nat) : (natI l).length = l.length := by simp [natI]
theorem natI_snoc (l : List Nat) (n : Nat) : natI (l ++ [n]) = natI l ++ [(n : Int)] := by simp [natI]
theorem RS.setS {B b i : Nat} {W : World} {cv fv v : Value} {K : List (List Int)} {F : List Int} {cs : Array Value} (h : RS B W cv fv K F) (hb : Blk W b 111 cs) (hlt : b < B) : RS B (W.setCell ⟨b, i, none⟩ v) cv fv K F := by
 obtain ⟨c, h1, h2, h3⟩ := h.crow
 exact ⟨⟨c, row_setLow h1 hlt, h2.kp (Kp.set (Nat.zero_le _) hb (by decide)), h3⟩, row_setLow h.frow hlt⟩
structure SD (W5 wr : World) (n : Int) (cv fv lv : Value) (m : Int) (l : List Nat) : Prop where
 blk : Blk wr W5.heap.size 111 #[.int .i64 n, cv, fv, lv, .int .i64 m]
 row : wr.ownsRow (W5.heap.size + 1) 3 1 lv (natI l).length (icells (natI l))
 B : Below W5.heap.size W5 wr
theorem SD.new {W5 wr w' : World} {n m : Int} {cv fv lv : Value} {l : List Nat} (h : SD W5 wr n cv fv lv m l) (hb : Below wr.heap.size wr w') : SD W5 w' n cv fv lv m l :=
 ⟨h.blk.below hb h.blk.lt, row_new' h.row hb, h.B.trans (hb.mono h.B.size)⟩
theorem SD.app {W5 W w7 : World} {n m : Int} {cv fv lv v' : Value} {l : List Nat} {x : Nat} (h : SD W5 W n cv fv lv m l)
  (hown : w7.ownsRow (W5.heap.size + 1) 3 1 v' ((natI l).length + 1) (icells (natI l) ++ [.int .i64 (x : Int)])) (hg : (W.alloc (.cells #[.int .i64 (x : Int)] 3)).grownBy w7 lv.ownBlock) :
  Blk w7 W5.heap.size 111 #[.int .i64 n, cv, fv, lv, .int .i64 m] /\ SD W5 (w7.setCell ⟨W5.heap.size, 3, none⟩ v') n cv fv v' m (l ++ [x]) := by
 have hbn := below_new W (.cells #[.int .i64 (x : Int)] 3)
 have hl := h.blk.lt
 have hne : some W5.heap.size ≠ lv.ownBlock := fun e => by have := (h.row.lt _ e.symm).1; omega
 have q5 := (h.blk.below hbn hl).kept hg hne
 have hB7 : Below W5.heap.size W5 w7 := h.B.trans ((hbn.mono (by omega)).grown hg (by simp; omega) (fun k hk => by have := (h.row.lt k hk).1; omega))
 refine ⟨q5, q5.set (i := 3), ?_, hB7.setCell (p := ⟨W5.heap.size, 3, none⟩) (Nat.le_refl _) _⟩
 rw [natI_snoc, icells_snoc, List.length_append]
 exact row_setLow hown (by omega)
theorem said_c (bk : Nat) (ls : List Ln) (its : List It) (w : World) (h : CatAt w bk ls its) (hl : its.length <= 24) (hll : ls.length <= 120) (hnm : ∀ x ∈ ls, x.name.size <= 100000 /\ x.other.size <= 100000) (hP : (ofL its ls).length <= 200) :
  Calls Tryz.prog 46 #[.pointer (some ⟨bk, 0, none⟩)] w fun e w' => ∃ cv fv lv, e = .returned (.tuple #[.agg #[.int .i64 (its.length : Int), cv, fv, lv, .int .i64 (ls.length : Int)], .nilIface]) /\ RS w.heap.size w' cv fv ((ofL its ls).map Prod.snd) ((ofL its ls).map Prod.fst) /\ w'.ownsRow w.heap.size 3 1 lv (natI (saidF ls)).length (icells (natI (saidF ls))) /\ Below w.heap.size w w' := by
 obtain ⟨i0, hin, hz0, hz1, hz2⟩ := info_parts infoInt
 have hbx := below_new w (.cells #[.int .i64 0, .slice none 0 0, .slice none 0 0, .slice none 0 0, .int .i64 0] 111)
 have k2 := Blk.new w 111 #[.int .i64 0, .slice none 0 0, .slice none 0 0, .slice none 0 0, .int .i64 0]
 have hc0 := h.below hbx (Nat.le_refl _)
 have HOF0 := of_c bk ls its _ hc0 hl hll hnm
 have HC := Lib.hid hc0
 have hs0 : (w.alloc (.cells #[.int .i64 0, .slice none 0 0, .slice none 0 0, .slice none 0 0, .int .i64 0] 111)).heap.size = w.heap.size + 1 := by simp
 have HBX := Lib.hid hbx
 generalize ofL its ls = P at *
 clear h hnm hbx hc0
 go_enter Tryz.func46, Tryz.ntmps46
 go_upto_region 1 with fail
 generalize w.alloc (.cells #[.int .i64 0, .slice none 0 0, .slice none 0 0, .slice none 0 0, .int .i64 0] 111) = W0 at *
 have HOF : Hid (Calls Tryz.prog 67 #[.pointer (some ⟨bk, 0, none⟩)] W0 fun e w' => ∃ cv fv, e = .returned (.tuple #[.agg #[.int .i64 (its.length : Int), cv, fv], .nilIface]) /\ RS W0.heap.size w' cv fv (P.map Prod.snd) (P.map Prod.fst) /\ Below W0.heap.size W0 w') := HOF0.mono fun e w' hh => by
  rcases hh with ⟨h1, _⟩ | ⟨-, cv, fv, h2, h3, h4⟩
  ·omega
  ·exact ⟨cv, fv, h2, h3, h4⟩
 clear HOF0
 go_wp2_with fail
 refine HOF.out.mono ?_
 rintro e w1 ⟨cv, fv, rfl, hrs, hb1⟩
 obtain ⟨ca, cc, rfl, -⟩ : ∃ a c, cv = .slice a P.length c /\ True := by obtain ⟨cs, h1, _⟩ := hrs.crow; obtain ⟨a, c, e, _⟩ := (rowAt_own h1).form; exact ⟨a, c, by simpa using e, trivial⟩
 obtain ⟨fa, fc, rfl, -⟩ : ∃ a c, fv = .slice a P.length c /\ True := by obtain ⟨a, c, e, _⟩ := (rowAt_own hrs.frow).form; exact ⟨a, c, by simpa using e, trivial⟩
 have hbn := below_new w1 (.cells #[.int .i64 (its.length : Int), .slice ca P.length cc, .slice fa P.length fc] 65)
 have kr := Blk.new w1 65 #[.int .i64 (its.length : Int), .slice ca P.length cc, .slice fa P.length fc]
 have hb2 := hb1.trans (hbn.mono hb1.size)
 have HRS := Lib.hid (hrs.new hbn)
 have HB2 := Lib.hid hb2
 have HLN := Lib.hid (lines_c bk ls its _ (HC.out.below hb2 (Nat.le_refl _)) (by omega))
 have K2 := Lib.hid (k2.below hb2 k2.lt)
 clear hrs hb1 hbn hb2 HOF HC k2
 go_upto_region 4 with fail
 generalize w1.alloc (.cells #[.int .i64 (its.length : Int), .slice ca P.length cc, .slice fa P.length fc] 65) = W2 at *
 generalize w1.heap.size = b4 at *
 go_wp2_with fail
 refine HLN.out.mono ?_
 rintro e w3 ⟨lv, rfl, hlv, hb3⟩
 obtain ⟨la, lc, rfl⟩ : ∃ a c, lv = .slice a ls.length c := by obtain ⟨vs', _, h2⟩ := hlv; obtain ⟨a, c, e, _⟩ := h2.form; exact ⟨a, c, e⟩
 have kr3 := kr.below hb3 kr.lt
 have r0 : w3.cell? ⟨b4, 0, none⟩ = some (.int .i64 (its.length : Int)) := kr3.cell 0
 have r1 : w3.cell? ⟨b4, 1, none⟩ = some (.slice ca P.length cc) := kr3.cell 1
 have r2 : w3.cell? ⟨b4, 2, none⟩ = some (.slice fa P.length fc) := kr3.cell 2
 have HRS3 := Lib.hid (HRS.out.new hb3)
 have HB3 : Hid (Below W0.heap.size W0 w3) := HB2.out.trans (hb3.mono HB2.out.size)
 have K3 := Lib.hid (K2.out.below hb3 K2.out.lt)
 have HLV := Lib.hid hlv
 have hsd : SD w3 (w3.alloc (.cells #[.int .i64 (its.length : Int), .slice ca P.length cc, .slice fa P.length fc, .slice none 0 0, .int .i64 (ls.length : Int)] 111)) (its.length : Int) (.slice ca P.length cc) (.slice fa P.length fc) (.slice none 0 0) (ls.length : Int) (saidP ls 0) := ⟨Blk.new _ _ _, World.ownsRow_nil _ _ _ _, below_new _ _⟩
 have HSD := Lib.hid hsd
 clear hlv hb3 kr kr3 HRS HB2 K2 HLN hsd
 go_upto_region 6 with fail
 generalize w3.alloc (.cells #[.int .i64 (its.length : Int), .slice ca P.length cc, .slice fa P.length fc, .slice none 0 0, .int .i64 (ls.length : Int)] 111) = W5 at *
 clear r0 r1 r2
 go_wp2_with fail
 go_loopw [27] (fun iV wr => ∃ (i : Nat) (lv : Value), i <= ls.length /\ iV = .int .i64 (i : Int) /\ SD w3 wr (its.length : Int) (.slice ca P.length cc) (.slice fa P.length fc) lv (ls.length : Int) (saidP ls i)) (fun iV _ => ls.length - (intOf iV).toNat)
 case atStart => exact ⟨0, _, Nat.zero_le _, rfl, HSD.out⟩
 case round =>
  clear HSD
  obtain ⟨i, lv, hil, rfl, hsd⟩ := hrel
  by_cases hlt : i < ls.length
  ·have hii0 : (0 : Int) <= (i : Int) := by omega
   have hii1 : (i : Int) < (ls.length : Int) := by omega
   obtain ⟨g, cap', rv, e, hg, hsp, hrg, c0, c1, c2, c3, c4, c5, c6⟩ := (HLV.out.below hsd.B (Nat.le_refl _)).at i hlt
   simp at e
   obtain ⟨rfl, rfl⟩ := e
   have HSU := Lib.hid (saidP_succ ls i)
   have hpl := saidP_len ls i
   obtain ⟨x, hxe⟩ : ∃ x, ls.getD i default = x := ⟨_, rfl⟩
   rw [hxe] at hsp hrg c0 c1 c2 c3 c4 c5 HSU
   obtain ⟨ra, rc, rfl⟩ := hsp.form
   have hb6 := below_new wr (.cells #[.int .i64 x.kind, .string x.name, .int .i64 x.a, .int .i64 x.b, .int .i64 x.c, .string x.other, .slice ra x.rng.length rc] 98)
   have kx := Blk.new wr 98 #[.int .i64 x.kind, .string x.name, .int .i64 x.a, .int .i64 x.b, .int .i64 x.c, .string x.other, .slice ra x.rng.length rc]
   have HSD := Lib.hid (hsd.new hb6)
   obtain ⟨va, vc, hve, -⟩ := (rowAt_own hsd.row).form
   rw [natI_len] at hve
   subst hve
   clear hsd hb6 hsp hrg hxe
   go_upto_region 9 with fail
   generalize wr.alloc (.cells #[.int .i64 x.kind, .string x.name, .int .i64 x.a, .int .i64 x.b, .int .i64 x.c, .string x.other, .slice ra x.rng.length rc] 98) = W6 at *
   generalize wr.heap.size = bx at *
   have x0 : W6.cell? ⟨bx, 0, none⟩ = some (.int .i64 x.kind) := kx.cell 0
   clear c0 c1 c2 c3 c4 c5 c6 hg kx
   cases hk : (x.kind != 1) with
   | true =>
    have hk1 : (x.kind != 1) = true := hk
    have d3 : W6.cell? ⟨w3.heap.size, 3, none⟩ = some (.slice va (saidP ls i).length vc) := HSD.out.blk.cell 3
    have HRW : Hid (W6.ownsRow (w3.heap.size + 1) 3 1 (.slice va (saidP ls i).length vc) (saidP ls i).length (icells (natI (saidP ls i)))) := by have := HSD.out.row; rw [natI_len] at this; exact this
    have HAP := Lib.hid (fun w7 v' => HSD.out.app (w7 := w7) (v' := v') (x := i))
    rw [hk, if_pos rfl] at HSU
    have hws := HSD.out.blk.lt
    clear hk HSD
    go_wp2_with (at_builtin; refine wpList_append_own_at _ rfl _ _ 31 rfl (w3.heap.size + 1) 3 i0 (.int .i64 0) 1 8 Tryz.underlying31 hin hz0 hz1 hz2 rfl (by decide) _ _ _ rfl (HRW.out.alloc _) ⟨W6.heap.size, 0, none⟩ 1 1 [.int .i64 (i : Int)] rfl rfl ?a1 ?a2 ?a3 ?a4 ?a5 ?_)
    case a1 => exact clit _ _ _
    case a2 => intro u hu; rw [List.mem_singleton] at hu; subst hu; rfl
    case a3 => unfold maxLen; omega
    case a4 => omega
    case a5 => simp; omega
    intro v7 w7 hown7 hgrow7 _ hloc7
    obtain ⟨kb7, hsd7⟩ := HAP.out w7 v7 (by rw [natI_len]; exact hown7) hgrow7
    rw [<- HSU.out] at hsd7
    have e3 : w7.cell? ⟨w3.heap.size, 3, none⟩ = some (.slice va (saidP ls i).length vc) := kb7.cell 3
    have f3 := kb7.frozen 3
    obtain ⟨va7, vc7, hve, -⟩ := (rowAt_own hown7).form
    have HSD7 := Lib.hid hsd7
    clear hown7 hgrow7 hloc7 HAP HRW d3 HSU kb7 hsd7
    subst hve
    go_wp2
    go_roundw
    case rel => exact ⟨i + 1, _, hlt, by go_num, HSD7.out⟩
    case measure => simp [intOf]; omega
   | false =>
    rw [hk, if_neg (by simp), List.append_nil] at HSU
    have hk1 : (x.kind != 1) = false := hk
    have HSD7 : Hid (SD w3 W6 (its.length : Int) (.slice ca P.length cc) (.slice fa P.length fc) (.slice va (saidP ls i).length vc) (ls.length : Int) (saidP ls (i + 1))) := by show SD _ _ _ _ _ _ _ _; rw [HSU.out]; exact HSD.out
    clear hk HSD HSU
    go_wp2
    go_roundw
    case rel => exact ⟨i + 1, _, hlt, by go_num, HSD7.out⟩
    case measure => simp [intOf]; omega
  ·obtain rfl : i = ls.length := by omega
   obtain ⟨va, vc, hve, -⟩ := (rowAt_own hsd.row).form
   rw [natI_len] at hve
   subst hve
   have hs3 := HB3.out.size
   have y0 : wr.cell? ⟨w3.heap.size, 0, none⟩ = some (.int .i64 (its.length : Int)) := hsd.blk.cell 0
   have y1 : wr.cell? ⟨w3.heap.size, 1, none⟩ = some (.slice ca P.length cc) := hsd.blk.cell 1
   have y2 : wr.cell? ⟨w3.heap.size, 2, none⟩ = some (.slice fa P.length fc) := hsd.blk.cell 2
   have y3 : wr.cell? ⟨w3.heap.size, 3, none⟩ = some (.slice va (saidP ls ls.length).length vc) := hsd.blk.cell 3
   have y4 : wr.cell? ⟨w3.heap.size, 4, none⟩ = some (.int .i64 (ls.length : Int)) := hsd.blk.cell 4
   have k5 := K3.out.below hsd.B K3.out.lt
   have hRS5 := (HRS3.out.new hsd.B).base (B' := w.heap.size + 1) (by omega)
   have hRow : wr.ownsRow (w.heap.size + 1) 3 1 (.slice va (saidP ls ls.length).length vc) (natI (saidP ls ls.length)).length (icells (natI (saidP ls ls.length))) := ownsRow_base hsd.row (by omega)
   have hB5 : Below w.heap.size w wr := HBX.out.trans ((HB3.out.trans (hsd.B.mono hs3)).mono (by omega))
   have q0 := k5
   have q1 := q0.set (i := 0) (v := .int .i64 (its.length : Int))
   have q2 := q1.set (i := 1) (v := .slice ca P.length cc)
   have q3 := q2.set (i := 2) (v := .slice fa P.length fc)
   have q4 := q3.set (i := 3) (v := .slice va (saidP ls ls.length).length vc)
   have q5 := q4.set (i := 4) (v := .int .i64 (ls.length : Int))
   have hR := ((((hRS5.setS (i := 0) (v := .int .i64 (its.length : Int)) q0 (by omega)).setS (i := 1) (v := .slice ca P.length cc) q1 (by omega)).setS (i := 2) (v := .slice fa P.length fc) q2 (by omega)).setS (i := 3) (v := .slice va (saidP ls ls.length).length vc) q3 (by omega)).setS (i := 4) (v := .int .i64 (ls.length : Int)) q4 (by omega)
   have hRw := row_setLow (b := w.heap.size) (i := 4) (x := .int .i64 (ls.length : Int)) (row_setLow (b := w.heap.size) (i := 3) (x := .slice va (saidP ls ls.length).length vc) (row_setLow (b := w.heap.size) (i := 2) (x := .slice fa P.length fc) (row_setLow (b := w.heap.size) (i := 1) (x := .slice ca P.length cc) (row_setLow (b := w.heap.size) (i := 0) (x := .int .i64 (its.length : Int)) hRow (by omega)) (by omega)) (by omega)) (by omega)) (by omega)
   have hBB := (((((hB5.setCell (p := ⟨w.heap.size, 0, none⟩) (Nat.le_refl _) (.int .i64 (its.length : Int))).setCell (p := ⟨w.heap.size, 1, none⟩) (Nat.le_refl _) (.slice ca P.length cc)).setCell (p := ⟨w.heap.size, 2, none⟩) (Nat.le_refl _) (.slice fa P.length fc)).setCell (p := ⟨w.heap.size, 3, none⟩) (Nat.le_refl _) (.slice va (saidP ls ls.length).length vc)).setCell (p := ⟨w.heap.size, 4, none⟩) (Nat.le_refl _) (.int .i64 (ls.length : Int)))
   have Q5 : Hid (Blk (((((wr.setCell ⟨w.heap.size, 0, none⟩ (.int .i64 (its.length : Int))).setCell ⟨w.heap.size, 1, none⟩ (.slice ca P.length cc)).setCell ⟨w.heap.size, 2, none⟩ (.slice fa P.length fc)).setCell ⟨w.heap.size, 3, none⟩ (.slice va (saidP ls ls.length).length vc)).setCell ⟨w.heap.size, 4, none⟩ (.int .i64 (ls.length : Int))) w.heap.size 111 #[.int .i64 (its.length : Int), .slice ca P.length cc, .slice fa P.length fc, .slice va (saidP ls ls.length).length vc, .int .i64 (ls.length : Int)]) := q5
   have e0 : wr.cell? ⟨w.heap.size, 0, none⟩ = some (.int .i64 0) := q0.cell 0
   have g0 : wr.frozen? ⟨w.heap.size, 0, none⟩ = false := q0.frozen 0
   have e1 : (wr.setCell ⟨w.heap.size, 0, none⟩ (.int .i64 (its.length : Int))).cell? ⟨w.heap.size, 1, none⟩ = some (.slice none 0 0) := q1.cell 1
   have g1 : (wr.setCell ⟨w.heap.size, 0, none⟩ (.int .i64 (its.length : Int))).frozen? ⟨w.heap.size, 1, none⟩ = false := q1.frozen 1
   have e2 : ((wr.setCell ⟨w.heap.size, 0, none⟩ (.int .i64 (its.length : Int))).setCell ⟨w.heap.size, 1, none⟩ (.slice ca P.length cc)).cell? ⟨w.heap.size, 2, none⟩ = some (.slice none 0 0) := q2.cell 2
   have g2 : ((wr.setCell ⟨w.heap.size, 0, none⟩ (.int .i64 (its.length : Int))).setCell ⟨w.heap.size, 1, none⟩ (.slice ca P.length cc)).frozen? ⟨w.heap.size, 2, none⟩ = false := q2.frozen 2
   have e3 : (((wr.setCell ⟨w.heap.size, 0, none⟩ (.int .i64 (its.length : Int))).setCell ⟨w.heap.size, 1, none⟩ (.slice ca P.length cc)).setCell ⟨w.heap.size, 2, none⟩ (.slice fa P.length fc)).cell? ⟨w.heap.size, 3, none⟩ = some (.slice none 0 0) := q3.cell 3
   have g3 : (((wr.setCell ⟨w.heap.size, 0, none⟩ (.int .i64 (its.length : Int))).setCell ⟨w.heap.size, 1, none⟩ (.slice ca P.length cc)).setCell ⟨w.heap.size, 2, none⟩ (.slice fa P.length fc)).frozen? ⟨w.heap.size, 3, none⟩ = false := q3.frozen 3
   have e4 : ((((wr.setCell ⟨w.heap.size, 0, none⟩ (.int .i64 (its.length : Int))).setCell ⟨w.heap.size, 1, none⟩ (.slice ca P.length cc)).setCell ⟨w.heap.size, 2, none⟩ (.slice fa P.length fc)).setCell ⟨w.heap.size, 3, none⟩ (.slice va (saidP ls ls.length).length vc)).cell? ⟨w.heap.size, 4, none⟩ = some (.int .i64 0) := q4.cell 4
   have g4 : ((((wr.setCell ⟨w.heap.size, 0, none⟩ (.int .i64 (its.length : Int))).setCell ⟨w.heap.size, 1, none⟩ (.slice ca P.length cc)).setCell ⟨w.heap.size, 2, none⟩ (.slice fa P.length fc)).setCell ⟨w.heap.size, 3, none⟩ (.slice va (saidP ls ls.length).length vc)).frozen? ⟨w.heap.size, 4, none⟩ = false := q4.frozen 4
   have HR5 := Lib.hid (hR.base (B' := w.heap.size) (by omega))
   have HRW5 := Lib.hid (ownsRow_base hRw (Nat.le_succ _))
   have HBB := Lib.hid hBB
   clear q0 q1 q2 q3 q4 q5 hR hRw hBB hRS5 hRow hB5 k5 hsd HLV HRS3 HB3 K3 HBX
   go_wp2
   generalize ((((wr.setCell ⟨w.heap.size, 0, none⟩ (.int .i64 (its.length : Int))).setCell ⟨w.heap.size, 1, none⟩ (.slice ca P.length cc)).setCell ⟨w.heap.size, 2, none⟩ (.slice fa P.length fc)).setCell ⟨w.heap.size, 3, none⟩ (.slice va (saidP ls ls.length).length vc)).setCell ⟨w.heap.size, 4, none⟩ (.int .i64 (ls.length : Int)) = WG at *
   have z0 := Q5.out.cell 0
   have z1 := Q5.out.cell 1
   have z2 := Q5.out.cell 2
   have z3 := Q5.out.cell 3
   have z4 := Q5.out.cell 4
   refine bodyPost_ret (v := .tuple #[.agg #[.int .i64 (its.length : Int), .slice ca P.length cc, .slice fa P.length fc, .slice va (saidP ls ls.length).length vc, .int .i64 (ls.length : Int)], .nilIface]) (by simp [results, Tryz.f46, go_sem, z0, z1, z2, z3, z4]) rfl ?_
   exact ⟨_, _, _, rfl, HR5.out, HRW5.out, HBB.out⟩
end
end Go.Proofs.YtpmpnbbihmgdpaaGreatDoor
