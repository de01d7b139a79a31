/- What the search has in memory. -/
import Derived.Test.YtpmpnbbihmgdpaaGreatDoorCtOf
import Derived.Test.YtpmpnbbihmgdpaaGreatDoorCtMem
import Derived.Lib.SliceRun
import Derived.Test.YtpmpnbbihmgdpaaGreatDoorClNum
import Derived.Deep.MidRow
import Derived.WalkSmall
import Derived.Deep.RegionLaw
set_option maxHeartbeats 4000000
set_option maxRecDepth 100000
namespace Go.Proofs.YtpmpnbbihmgdpaaGreatDoor
section
open Go.RowKit Go.Deep Sv
def BoolsIn (w : World) (a : Option Addr) (bs : List Bool) : Prop := ∀ i, i < bs.length -> ∃ ad : Addr, a = some ad /\ ad.block < w.heap.size /\ w.cell? (ad.add i) = some (.bool (bs.getD i false))
theorem BoolsIn.below {B : Nat} {w w' : World} {a : Option Addr} {bs : List Bool} (h : BoolsIn w a bs) (hb : Below B w w') (hB : w.heap.size <= B) : BoolsIn w' a bs := fun i hi => by
 obtain ⟨ad, h1, h2, h3⟩ := h i hi
 exact ⟨ad, h1, Nat.lt_of_lt_of_le h2 hb.size, (hb.cell (p := ad.add i) (by rw [addr_block]; omega)).trans h3⟩
theorem told_c (b3 : Nat) (a : Option Addr) (bs : List Bool) (cap : Nat) (n : Int) (w : World) (hc : w.cell? ⟨b3, 0, none⟩ = some (.slice a bs.length cap)) (hb : BoolsIn w a bs) :
  Calls Tryz.prog 139 #[.int .i64 n, .pointer (some ⟨b3, 0, none⟩)] w fun e w' => e = .returned (.bool (ctTold bs n)) /\ w' = w := by
 by_cases h1 : n = -1
 ·subst h1
  have hT : ctTold bs (-1) = true := by simp [ctTold]
  rw [hT]
  go_enter Tryz.func139, Tryz.ntmps139
  go_wp2
  go_ret
  exact ⟨rfl, rfl⟩
 ·by_cases h0 : 0 <= n
  ·obtain ⟨k, rfl⟩ := Int.eq_ofNat_of_zero_le h0
   by_cases hk : k < bs.length
   ·obtain ⟨ad, rfl, hlt, hcell⟩ := hb k hk
    have hT : ctTold bs (k : Int) = bs.getD k false := by simp [ctTold]
    rw [hT]
    generalize bs.getD k false = bb at *
    have hki : (k : Int) < (bs.length : Int) := by omega
    obtain ⟨ab, ao, asp⟩ := ad
    clear hb hT
    go_enter Tryz.func139, Tryz.ntmps139
    go_wp2
    go_ret
    exact ⟨rfl, rfl⟩
   ·have hT : ctTold bs (k : Int) = false := by simp [ctTold, List.getD_eq_getElem?_getD, List.getElem?_eq_none (show bs.length <= k by omega)]
    rw [hT]
    have hki : ¬ (k : Int) < (bs.length : Int) := by omega
    clear hb hT
    go_enter Tryz.func139, Tryz.ntmps139
    go_wp2
    go_ret
    exact ⟨rfl, rfl⟩
  ·have hT : ctTold bs n = false := by simp [ctTold, h1, h0]
   have hq : (n == -1) = false := by simpa using h1
   rw [hT]
   clear hb hT
   go_enter Tryz.func139, Tryz.ntmps139
   go_wp2
   go_ret
   exact ⟨rfl, rfl⟩
theorem clone_cl (c : List Int) (a : Option Addr) (cap : Nat) (w : World) (hp : PlA a) (hi : IntsK 0 w a c) (hl : c.length <= 100000) (h0 : a = none -> c = []) :
  Calls Tryz.prog 140 #[.slice a c.length cap] w fun e w' => ∃ a' cap', e = .returned (.slice a' c.length cap') /\ c.length <= cap' /\ cap' <= 9223372036854775807 /\ IntsK 0 w' a' c /\ Below w.heap.size w w' := by
 obtain ⟨i0, hin, hz0, hz1, hz2⟩ := info_parts infoInt
 cases a with
 | none =>
  obtain rfl := h0 rfl
  exact (AnyE.slices_Clone_nil Tryz.clnCl 0 cap w).mono fun e w' ⟨he, hw⟩ => ⟨none, 0, he, Nat.le_refl _, by omega, (fun i hi => by simp at hi), by rw [hw]; exact Below.refl _ _⟩
 | some ad =>
  obtain ⟨b, o, sp⟩ := ad
  obtain rfl : sp = none := hp _ rfl
  refine (AnyE.slices_Clone Tryz.clnCl i0 _ 1 8 hin hz0 hz1 hz2 rfl (by decide) Tryz.sizeOf3 b o c.length cap (icells c) w (by rw [icells_length]; omega) (by unfold maxLen; omega) (by omega) (fun j u hu => ?_) (fun u hu => by obtain ⟨y, _, rfl⟩ := List.mem_map.1 hu; rfl)).mono fun e w' ⟨v', he, h1, _, h3⟩ => ?_
  ·have hj : j < c.length := by have := (List.getElem?_eq_some_iff.1 hu).1; rwa [icells_length] at this
   rw [icells_at c j hj] at hu
   obtain ⟨ad, h1, _, _, h4⟩ := hi j hj
   cases h1
   rw [<- hu]
   rwa [add_plain] at h4
  ·obtain ⟨a', cap', rfl, h4, h5, h6, _⟩ := intsK_own (l := c) h1
   exact ⟨a', cap', he, h4, h5, h6, h3⟩
def onlyP (P : List (Int × List Int)) (bs : List Bool) (i : Nat) : List (List Int) := ctOnly (P.take i) bs
theorem onlyP_succ (P : List (Int × List Int)) (bs : List Bool) (i : Nat) (h : i < P.length) : onlyP P bs (i + 1) = onlyP P bs i ++ (if ctTold bs (P.getD i default).1 then [(P.getD i default).2] else []) := by
 unfold onlyP ctOnly
 rw [List.take_add_one, List.getElem?_eq_getElem h, List.filter_append, List.map_append, List.getD_eq_getElem?_getD, List.getElem?_eq_getElem h]
 congr 1
 simp only [Option.toList_some, Option.getD_some, List.filter_cons, List.filter_nil]
 split <;> simp
theorem onlyP_len (P : List (Int × List Int)) (bs : List Bool) (i : Nat) : (onlyP P bs i).length <= i := by
 unfold onlyP ctOnly
 rw [List.length_map]
 exact Nat.le_trans (List.length_filter_le _ _) (List.length_take_le _ _)
def CO (B : Nat) (W : World) (v : Value) (K : List (List Int)) : Prop := ∃ cs, W.ownsRow B 143 1 v K.length cs /\ ClsK 0 W cs K
theorem CO.new {B : Nat} {W W' : World} {v : Value} {K : List (List Int)} (h : CO B W v K) (hb : Below W.heap.size W W') : CO B W' v K := by
 obtain ⟨cs, h1, h2⟩ := h
 exact ⟨cs, row_new' h1 hb, h2.kp (Kp.new hb)⟩
theorem CO.app {B : Nat} {W w7 : World} {v v' : Value} {K : List (List Int)} {c : List Int} {a : Option Addr} {cap : Nat} {cs : List Value} (hB : B <= W.heap.size) (hrow : W.ownsRow B 143 1 v K.length cs) (hck : ClsK 0 W cs K)
  (hc1 : c.length <= cap) (hc2 : cap <= 9223372036854775807) (hi : IntsK 0 W a c)
  (hown : w7.ownsRow B 143 1 v' (K.length + 1) (cs ++ [.slice a c.length cap])) (hg : (W.alloc (.cells #[.slice a c.length cap] 143)).grownBy w7 v.ownBlock) : CO B w7 v' (K ++ [c]) /\ Below B W w7 := by
 have hbn := below_new W (.cells #[.slice a c.length cap] 143)
 have hk : Kp 0 (W.alloc (.cells #[.slice a c.length cap] 143)) w7 := Kp.grown (ownsRow_base (row_new' hrow hbn) (Nat.zero_le _)) hg (by decide)
 have hk3 := (Kp.new (B := 0) hbn).trans hk
 exact ⟨⟨_, by simpa using hown, (hck.kp hk3).snoc hc1 hc2 (hi.kp hk3)⟩, (hbn.mono hB).grown hg (by simp; omega) (fun k hk => (hrow.lt k hk).1)⟩
theorem RS.at {B : Nat} {W : World} {cv fv : Value} {P : List (Int × List Int)} (h : RS B W cv fv (P.map Prod.snd) (P.map Prod.fst)) (i : Nat) (hi : i < P.length) :
  ∃ cg cc fg fc a cap, cv = .slice (some ⟨cg, 0, none⟩) P.length cc /\ fv = .slice (some ⟨fg, 0, none⟩) P.length fc /\ W.cell? ⟨cg, i, none⟩ = some (.slice a (P.getD i default).2.length cap) /\ W.cell? ⟨fg, i, none⟩ = some (.int .i64 (P.getD i default).1) /\ IntsK 0 W a (P.getD i default).2 /\ PlA a := by
 obtain ⟨cs, h1, h2, _, h4⟩ := h.crow
 have h3 := h.frow
 obtain ⟨cg, cc, e1, _, hc1⟩ := (rowAt_own h1).cells (by rw [List.length_map]; omega)
 obtain ⟨fg, fc, e2, _, hc2⟩ := (rowAt_own h3).cells (by rw [List.length_map]; omega)
 obtain ⟨a, cap, q1, _, _, q4⟩ := h2.2 i (by simpa using hi)
 have g1 : (P.map Prod.snd).getD i [] = (P.getD i default).2 := by simp [List.getD_eq_getElem?_getD, hi]
 have g2 : (P.map Prod.fst).getD i 0 = (P.getD i default).1 := by simp [List.getD_eq_getElem?_getD, hi]
 rw [g1] at q1 q4
 refine ⟨cg, cc, fg, fc, a, cap, by simpa using e1, by simpa using e2, hc1 i _ q1, hc2 i _ (by rw [icells_at _ _ (by simpa using hi), g2]), q4, ?_⟩
 exact h4 _ (List.mem_of_getElem? q1) _ _ _ rfl
end
section
open Go.RowKit Go.Deep Sv
theorem only_c (B : Nat) (n : Int) (P : List (Int × List Int)) (cv fv : Value) (bs : List Bool) (la : Option Addr) (lc : Nat) (w : World) (hr : RS B w cv fv (P.map Prod.snd) (P.map Prod.fst)) (hb : BoolsIn w la bs) (hP : P.length <= 10000) (hc : ∀ x ∈ P, x.2.length <= 1000) :
  Calls Tryz.prog 79 #[.agg #[.int .i64 n, cv, fv], .slice la bs.length lc] w fun e w' => ∃ v', e = .returned v' /\ CO w.heap.size w' v' (ctOnly P bs) /\ Below w.heap.size w w' := by
 obtain ⟨ca, cc, rfl, -⟩ : ∃ a c, cv = .slice a P.length c /\ True := by obtain ⟨cs, h1, _⟩ := hr.crow; obtain ⟨a, c, e, _⟩ := (rowAt_own h1).form; exact ⟨a, c, by simpa using e, trivial⟩
 obtain ⟨fa, fc, rfl, -⟩ : ∃ a c, fv = .slice a P.length c /\ True := by obtain ⟨a, c, e, _⟩ := (rowAt_own hr.frow).form; exact ⟨a, c, by simpa using e, trivial⟩
 obtain ⟨ic, hic, hc0', hc1', hc2'⟩ := info_parts infoCls
 have hb1 := below_new w (.cells #[.int .i64 n, .slice ca P.length cc, .slice fa P.length fc] 65)
 have hb2 := below_new (w.alloc (.cells #[.int .i64 n, .slice ca P.length cc, .slice fa P.length fc] 65)) (.cells #[.slice la bs.length lc] 133)
 have k2 := (Blk.new w 65 #[.int .i64 n, .slice ca P.length cc, .slice fa P.length fc]).alloc (.cells #[.slice la bs.length lc] 133)
 have k3 := Blk.new (w.alloc (.cells #[.int .i64 n, .slice ca P.length cc, .slice fa P.length fc] 65)) 133 #[.slice la bs.length lc]
 rw [World.size_alloc] at k3
 have hbb := hb1.trans (hb2.mono hb1.size)
 have HR := Lib.hid ((hr.new hb1).new hb2)
 have HBO := Lib.hid (hb.below hbb (Nat.le_refl _))
 have HBB := Lib.hid hbb
 have HC := Lib.hid hc
 have HEND : Hid (onlyP P bs P.length = ctOnly P bs) := by show _ = _; unfold onlyP; rw [List.take_length]
 generalize ctOnly P bs = RES at *
 clear hb1 hb2 hr hb hbb hc
 go_enter Tryz.func79, Tryz.ntmps79
 go_upto_region 1 with fail
 generalize (w.alloc (.cells #[.int .i64 n, .slice ca P.length cc, .slice fa P.length fc] 65)).alloc (.cells #[.slice la bs.length lc] 133) = W0 at *
 have c1 : W0.cell? ⟨w.heap.size, 1, none⟩ = some (.slice ca P.length cc) := k2.cell 1
 go_wp2_with fail
 go_loopw [6, 13] (fun oV iV wr => ∃ (i : Nat), i <= P.length /\ iV = .int .i64 (i : Int) /\ CO W0.heap.size wr oV (onlyP P bs i) /\ Below W0.heap.size W0 wr) (fun _ iV _ => P.length - (intOf iV).toNat)
 case atStart => exact ⟨0, Nat.zero_le _, rfl, ⟨[], World.ownsRow_nil _ _ _ _, ClsK.nil⟩, Below.refl _ _⟩
 case round =>
  obtain ⟨i, hil, rfl, hco, hbw⟩ := hrel
  obtain ⟨ca0, cc0, rfl, -⟩ : ∃ a c, _ = Value.slice a (onlyP P bs i).length c /\ True := by obtain ⟨cs, h1, _⟩ := hco; obtain ⟨a, c, e, _⟩ := (rowAt_own h1).form; exact ⟨a, c, e, trivial⟩
  by_cases hlt : i < P.length
  ·obtain ⟨cg, cc', fg, fc', a, cap, e1, e2, q1, q2, q3, q4⟩ := (HR.out.new hbw).at i hlt
   simp at e1 e2
   obtain ⟨rfl, rfl⟩ := e1
   obtain ⟨rfl, rfl⟩ := e2
   have HSU := Lib.hid (onlyP_succ P bs i hlt)
   have hxl := HC.out (P.getD i default) (by rw [List.getD_eq_getElem?_getD, List.getElem?_eq_getElem hlt]; exact List.getElem_mem hlt)
   have hol := onlyP_len P bs i
   have k2' := k2.below hbw k2.lt
   have k3' := k3.below hbw k3.lt
   have d2 : wr.cell? ⟨w.heap.size, 2, none⟩ = some (.slice (some ⟨fg, 0, none⟩) P.length fc) := k2'.cell 2
   have d3 : wr.cell? ⟨w.heap.size + 1, 0, none⟩ = some (.slice la bs.length lc) := k3'.cell 0
   obtain ⟨f, hfe⟩ : ∃ f, (P.getD i default).1 = f := ⟨_, rfl⟩
   obtain ⟨c, hce⟩ : ∃ c, (P.getD i default).2 = c := ⟨_, rfl⟩
   rw [hfe] at q2
   rw [hce] at q1 q3 hxl
   rw [hfe, hce] at HSU
   have HTO := Lib.hid (told_c (w.heap.size + 1) la bs lc f wr d3 (HBO.out.below hbw (Nat.le_refl _)))
   have HCL := Lib.hid (clone_cl c a cap wr q4 q3 (by omega) (fun e => by cases c with | nil => rfl | cons y c => obtain ⟨ad, h, _⟩ := q3 0 (by simp); rw [e] at h; cases h))
   have HCO := Lib.hid hco
   have HBW := Lib.hid hbw
   have hws := hbw.size
   have hii0 : (0 : Int) <= (i : Int) := by omega
   have hii1 : (i : Int) < (P.length : Int) := by omega
   clear hfe hce q3 q4 k2' k3' hco hbw d3
   cases htd : ctTold bs f with
   | true =>
    rw [htd] at HTO HSU
    go_wp2_with fail
    refine HTO.out.mono ?_
    rintro e w' ⟨rfl, hw'⟩
    rw [hw']
    clear hw'
    clear w'
    clear HTO q1 q2 d2
    go_wp2_with fail
    refine HCL.out.mono ?_
    rintro e w4 ⟨a', cap', rfl, t1, t2, t3, hb4⟩
    obtain ⟨cs, hrow, hck⟩ := HCO.out.new hb4
    have HROW := Lib.hid hrow
    have HCK := Lib.hid hck
    have HT3 := Lib.hid t3
    have HB4 := Lib.hid hb4
    have hs4 := hb4.size
    clear HCL HCO hrow hck t3 hb4
    go_wp2_with (at_builtin; refine wpList_append_own_at _ rfl _ _ 28 rfl W0.heap.size 143 ic (.slice none 0 0) 1 24 Tryz.underlying28 hic hc0' hc1' hc2' rfl (by decide) _ _ _ rfl (HROW.out.alloc _) ⟨w4.heap.size, 0, none⟩ 1 1 [.slice a' c.length cap'] rfl rfl ?c1 ?c2 ?c3 ?c4 ?c5 ?_)
    case c1 => exact clit _ _ _
    case c2 => intro u hu; rw [List.mem_singleton] at hu; subst hu; rfl
    case c3 => unfold maxLen; omega
    case c4 => omega
    case c5 => simp; omega
    intro v7 w7 hown7 hgrow7 _ hloc7
    obtain ⟨hco7, hb7⟩ := CO.app (by omega) HROW.out HCK.out t1 t2 HT3.out hown7 hgrow7
    have HC7 : Hid (CO W0.heap.size w7 v7 (onlyP P bs (i + 1))) := by show CO _ _ _ _; rw [HSU.out, if_pos (by simp)]; exact hco7
    have HB7 : Hid (Below W0.heap.size W0 w7) := (HBW.out.trans (HB4.out.mono hws)).trans hb7
    clear hown7 hgrow7 hloc7 hco7 hb7 HROW HCK HT3 HB4 HSU
    go_wp2
    go_roundw
    case rel => exact ⟨i + 1, hlt, by go_num, HC7.out, HB7.out⟩
    case measure => simp [intOf]; omega
   | false =>
    rw [htd] at HTO HSU
    go_wp2_with fail
    refine HTO.out.mono ?_
    rintro e w' ⟨rfl, hw'⟩
    rw [hw']
    clear hw'
    clear w'
    have HC7 : Hid (CO W0.heap.size wr (.slice ca0 (onlyP P bs i).length cc0) (onlyP P bs (i + 1))) := by show CO _ _ _ _; rw [HSU.out, if_neg (by simp), List.append_nil]; exact HCO.out
    clear HTO q1 q2 d2 HCL HCO HSU
    go_wp2
    go_roundw
    case rel => exact ⟨i + 1, hlt, by go_num, HC7.out, HBW.out⟩
    case measure => simp [intOf]; omega
  ·obtain rfl : i = P.length := by omega
   have HCO := Lib.hid hco
   have HBW := Lib.hid hbw
   clear hco hbw
   go_wp2
   go_ret
   obtain ⟨cs, g1, g2⟩ := HCO.out
   rw [<- HEND.out]
   exact ⟨_, rfl, ⟨cs, ownsRow_base g1 HBB.out.size, g2⟩, HBB.out.trans (HBW.out.mono HBB.out.size)⟩
end
section
open Go.RowKit Go.Deep
theorem cls_cells {W0 w : World} {ad : Addr} {l : List (List Int)} (h : ClsIn W0 (some ad) l) (hb : Below W0.heap.size W0 w) : ∃ cs : List Value, ClsK W0.heap.size w cs l /\ ∀ j u, cs[j]? = some u -> ad.block < W0.heap.size /\ w.cell? (ad.add j) = some u := by
 have each : ∀ i, i < l.length -> ∃ u : Value, (∃ (a : Option Addr) (cap : Nat), u = .slice a (l.getD i []).length cap /\ (l.getD i []).length <= cap /\ cap <= 9223372036854775807 /\ IntsK W0.heap.size w a (l.getD i [])) /\ ad.block < W0.heap.size /\ w.cell? (ad.add i) = some u := by
  intro i hi
  obtain ⟨ad', a', cap, e, h1, h2, h3, h4, h5⟩ := h i hi
  obtain rfl := Option.some.inj e
  exact ⟨_, ⟨a', cap, rfl, h3, h4, IntsK.of h5 hb⟩, h1, (hb.cell (by rw [addr_block]; exact h1)).trans h2⟩
 obtain ⟨q, hq⟩ := choose_lt (fun i hi => each i hi)
 have hlen : ((List.range l.length).map q).length = l.length := by simp
 have hat : ∀ i, i < l.length -> ((List.range l.length).map q)[i]? = some (q i) := fun i hi => by simp [hi]
 refine ⟨(List.range l.length).map q, ⟨hlen, fun i hi => ?_⟩, fun j u hj => ?_⟩
 ·obtain ⟨a, cap, e, h1, h2, h3⟩ := (hq i hi).1
  exact ⟨a, cap, by rw [hat i hi, e], h1, h2, h3⟩
 ·have hj' : j < l.length := by have := (List.getElem?_eq_some_iff.1 hj).1; rw [hlen] at this; exact this
  rw [hat j hj'] at hj
  obtain rfl := Option.some.inj hj
  exact (hq j hj').2
theorem clone_any (W0 : World) (l : List (List Int)) (a : Option Addr) (cap : Nat) (hn : a = none -> cap = 0) (hl : l.length <= 100000) (w : World) (hI : ClsIn W0 a l) (hb : Below W0.heap.size W0 w) :
  Calls Tryz.prog 70 #[.slice a l.length cap] w fun e w' => ∃ va vc, e = .returned (.slice va l.length vc) /\ (∃ cs, w'.ownsRow w.heap.size 143 1 (.slice va l.length vc) l.length cs /\ ClsK W0.heap.size w' cs l) /\ Below w.heap.size w w' := by
 obtain ⟨ic, hic, hc0, hc1, hc2⟩ := info_parts infoCls
 have hq := fun (x : Option Addr) (n c : Nat) (W : World) => Lib.run_eql_slice_nil (P := Tryz.prog) W 28 143 x n c 0 0 Tryz.underlying28
 cases a with
 | none =>
  obtain rfl : cap = 0 := hn rfl
  obtain rfl : l = [] := by
   cases l with
   | nil => rfl
   | cons c l => obtain ⟨ad, _, _, e, _⟩ := hI 0 (by simp); cases e
  have fin : Calls Tryz.prog 70 #[.slice none 0 0] w fun e w' => e = .returned (.slice none 0 0) /\ w = w' := by
   go_enter Tryz.func70, Tryz.ntmps70
   go_wp2
   go_ret
   exact ⟨rfl, rfl⟩
  exact fin.mono fun e w' ⟨he, hw⟩ => ⟨none, 0, he, ⟨[], World.ownsRow_nil _ _ _ _, ClsK.nil⟩, hw ▸ Below.refl _ _⟩
 | some ad =>
  obtain ⟨cs, hck, hcell⟩ := cls_cells hI hb
  have hcl := hck.1
  have hrow := World.ownsRow_lit (base := w.heap.size) (e := 143) (size := 1) w #[] 0 (Nat.le_refl _) (by decide) rfl
  have hone := hck.one
  have hnews : ∀ j u, cs[j]? = some u -> (w.alloc (.cells #[] 143)).cell? (ad.add j) = some u := fun j u hu => by
   obtain ⟨h1, h2⟩ := hcell j u hu
   rw [World.cell?_alloc_lt _ _ _ (by rw [addr_block]; exact Nat.lt_of_lt_of_le h1 hb.size)]; exact h2
  have HCK := Lib.hid hck
  have HROW := Lib.hid hrow
  have HONE := Lib.hid hone
  have HNEWS := Lib.hid hnews
  have HCL := Lib.hid hcl
  clear hI hck hcell hrow hone hnews hcl hn
  generalize hL : l.length = L at *
  clear hL
  go_enter Tryz.func70, Tryz.ntmps70
  go_wp2_with (at_builtin; refine wpList_append_own_at _ rfl _ _ 28 rfl w.heap.size 143 ic (.slice none 0 0) 1 24 Tryz.underlying28 hic hc0 hc1 hc2 rfl (by decide) _ _ _ rfl HROW.out ad L cap cs rfl (by rw [HCL.out, Nat.mul_one]) HNEWS.out HONE.out ?c3 ?c4 ?c5 ?_)
  case c3 => unfold maxLen; omega
  case c4 => omega
  intro v7 w7 hown7 hgrow7 _ _
  have hb7 : Below w.heap.size w w7 := (below_new w (.cells #[] 143)).grown hgrow7 (by simp) (fun k hk => by
   simp [Value.ownBlock] at hk; omega)
  have HK : Hid (ClsK W0.heap.size w7 cs l) := HCK.out.kp (Kp.new hb7)
  have hown8 : w7.ownsRow w.heap.size 143 1 v7 L cs := by simpa using hown7
  obtain ⟨va, vc, rfl, -, -⟩ := row_form hown8
  have HO := Lib.hid hown8
  have HB7 := Lib.hid hb7
  clear hown7 hown8 hgrow7 hb7 HROW HNEWS
  go_wp2
  go_ret
  exact ⟨_, _, rfl, ⟨cs, HO.out, HK.out⟩, HB7.out⟩
end
section
open Go.RowKit Go.Deep
def dcell (d : Int × List Int) : List Value := .int .i64 d.1 :: tvl d.2
def dcells (ds : List (Int × List Int)) : List Value := ds.flatMap dcell
theorem dcell_len (d : Int × List Int) : (dcell d).length = 25 := by simp [dcell, tvl_len]
theorem dcells_len (ds : List (Int × List Int)) : (dcells ds).length = ds.length * 25 := by
 induction ds with
 | nil => rfl
 | cons d ds ih =>
  have : dcells (d :: ds) = dcell d ++ dcells ds := rfl
  rw [this, List.length_append, dcell_len, ih, List.length_cons]
  omega
theorem dcells_snoc (ds : List (Int × List Int)) (d : Int × List Int) : dcells (ds ++ [d]) = dcells ds ++ dcell d := by simp [dcells]
theorem dcells_at {ds : List (Int × List Int)} {k : Nat} {d : Int × List Int} (h : ds[k]? = some d) (j : Nat) (hj : j < 25) : (dcells ds)[k * 25 + j]? = (dcell d)[j]? := by
 induction ds generalizing k with
 | nil => simp at h
 | cons e ds ih =>
  have he : dcells (e :: ds) = dcell e ++ dcells ds := rfl
  rw [he]
  cases k with
  | zero =>
   simp at h
   subst h
   rw [Nat.zero_mul, Nat.zero_add, List.getElem?_append_left (by rw [dcell_len]; exact hj)]
  | succ k =>
   rw [List.getElem?_append_right (by rw [dcell_len]; omega), dcell_len, show (k + 1) * 25 + j - 25 = k * 25 + j by omega]
   exact ih (by simpa using h)
structure SAt (B : Nat) (w : World) (sb : Nat) (l : List (List Int)) (s : St) (cV dV pV : Value) : Prop where
 blk : Blk w sb 149 ([cV] ++ tvl s.told ++ [dV, pV]).toArray
 Bsb : B <= sb
 crow : ∃ cs, w.ownsRow B 143 1 cV (l ++ s.prf).length cs /\ ClsK B w cs (l ++ s.prf)
 prow : ∃ ps, w.ownsRow B 143 1 pV s.prf.length ps /\ ClsK 0 w ps s.prf
 drow : w.ownsRow B 231 25 dV s.decs.length (dcells s.decs)
 apart : cV.ownBlock = none \/ cV.ownBlock ≠ pV.ownBlock
section
variable {B sb : Nat} {w w' : World} {l : List (List Int)} {s : St} {cV dV pV : Value}
theorem SAt.new (h : SAt B w sb l s cV dV pV) (hb : Below w.heap.size w w') : SAt B w' sb l s cV dV pV := by
 obtain ⟨cs, h1, h2⟩ := h.crow
 obtain ⟨ps, h3, h4⟩ := h.prow
 exact ⟨h.blk.below hb h.blk.lt, h.Bsb, ⟨cs, row_new' h1 hb, h2.kp (Kp.new hb)⟩, ⟨ps, row_new' h3 hb, h4.kp (Kp.new hb)⟩, row_new' h.drow hb, h.apart⟩
theorem SAt.vals (h : SAt B w sb l s cV dV pV) : ValsAt w ⟨sb, 1, none⟩ s.told := vals_of (pre := [cV]) (post := [dV, pV]) h.blk
theorem SAt.c0 (h : SAt B w sb l s cV dV pV) : w.cell? ⟨sb, 0, none⟩ = some cV := by rw [h.blk.cell]; rfl
theorem SAt.c25 (h : SAt B w sb l s cV dV pV) : w.cell? ⟨sb, 25, none⟩ = some dV := by
 rw [h.blk.cell, List.getElem?_toArray, List.getElem?_append_right (by simp [tvl_len])]; simp [tvl_len]
theorem SAt.c26 (h : SAt B w sb l s cV dV pV) : w.cell? ⟨sb, 26, none⟩ = some pV := by
 rw [h.blk.cell, List.getElem?_toArray, List.getElem?_append_right (by simp [tvl_len])]; simp [tvl_len]
theorem SAt.fz (h : SAt B w sb l s cV dV pV) (i : Nat) : w.frozen? ⟨sb, i, none⟩ = false := h.blk.frozen i
theorem SAt.rows (h : SAt B w sb l s cV dV pV) (i : Nat) (u : Value) : (∃ cs, (w.setCell ⟨sb, i, none⟩ u).ownsRow B 143 1 cV (l ++ s.prf).length cs /\ ClsK B (w.setCell ⟨sb, i, none⟩ u) cs (l ++ s.prf)) /\ (∃ ps, (w.setCell ⟨sb, i, none⟩ u).ownsRow B 143 1 pV s.prf.length ps /\ ClsK 0 (w.setCell ⟨sb, i, none⟩ u) ps s.prf) /\ (w.setCell ⟨sb, i, none⟩ u).ownsRow B 231 25 dV s.decs.length (dcells s.decs) := by
 obtain ⟨cs, h1, h2⟩ := h.crow
 obtain ⟨ps, h3, h4⟩ := h.prow
 have hk : Kp B w (w.setCell ⟨sb, i, none⟩ u) := Kp.set h.Bsb h.blk (by decide)
 exact ⟨⟨cs, ownsRow_setCell_other h1 (ownBlock_ne' h1 h.blk (by decide)) u, h2.kp hk⟩, ⟨ps, ownsRow_setCell_other h3 (ownBlock_ne' h3 h.blk (by decide)) u, h4.kp hk.zero⟩, ownsRow_setCell_other h.drow (ownBlock_ne' h.drow h.blk (by decide)) u⟩
theorem SAt.tell (h : SAt B w sb l s cV dV pV) {x : Int} (hx : litB 24 x = true) (hn : -x ∉ s.told) : SAt B (w.setCell ((⟨sb, 1, none⟩ : Addr).add (tellAt x)) (.int .i8 (tellV x))) sb l ⟨s.told ++ [x], s.decs, s.prf⟩ cV dV pV := by
 have hb := blk_tell (pre := [cV]) (post := [dV, pV]) hx hn h.blk
 have hr := h.rows (1 + tellAt x) (.int .i8 (tellV x))
 rw [add_plain] at *
 exact ⟨hb, h.Bsb, hr.1, hr.2.1, hr.2.2, h.apart⟩
end
end
end Go.Proofs.YtpmpnbbihmgdpaaGreatDoor
