/- The reference: LineParse, lines whose version is none. -/
import Derived.Test.YtmhophccdfmngaaGreatDoorCtOf
import Derived.Deep.CutRange
import Derived.Test.YtmhophccdfmngaaGreatDoorCtLines
import Derived.Test.YtmhophccdfmngaaGreatDoorRlNext
import Derived.Test.YtmhophccdfmngaaGreatDoorRlLine
import Derived.Test.YtmhophccdfmngaaGreatDoorSvShelfC
set_option maxHeartbeats 4000000
set_option maxRecDepth 100000
namespace Go.Proofs.YtmhophccdfmngaaGreatDoor
section
open Go.RowKit Go.Deep Sv
def BoolsIn (w : World) (a : Option Addr) (bs : List Bool) : Prop := ∀ i, i < bs.length -> ∃ ad : Addr, a = some ad /\ ad.block < w.heap.size /\ w.cell? (ad.add i) = some (.bool (bs.getD i false))
theorem BoolsIn.below {B : Nat} {w w' : World} {a : Option Addr} {bs : List Bool} (h : BoolsIn w a bs) (hb : Below B w w') (hB : w.heap.size <= B) : BoolsIn w' a bs := fun i hi => by
 obtain ⟨ad, h1, h2, h3⟩ := h i hi
 exact ⟨ad, h1, Nat.lt_of_lt_of_le h2 hb.size, (hb.cell (p := ad.add i) (by rw [addr_block]; omega)).trans h3⟩
theorem told_c (b3 : Nat) (a : Option Addr) (bs : List Bool) (cap : Nat) (n : Int) (w : World) (hc : w.cell? ⟨b3, 0, none⟩ = some (.slice a bs.length cap)) (hb : BoolsIn w a bs) :
  Calls Tryz.prog 106 #[.int .i64 n, .pointer (some ⟨b3, 0, none⟩)] w fun e w' => e = .returned (.bool (ctTold bs n)) /\ w' = w := by
 by_cases h1 : n = -1
 ·subst h1
  have hT : ctTold bs (-1) = true := by simp [ctTold]
  rw [hT]
  go_enter Tryz.func106, Tryz.ntmps106
  go_wp2
  go_ret
  exact ⟨rfl, rfl⟩
 ·by_cases h0 : 0 <= n
  ·obtain ⟨k, rfl⟩ := Int.eq_ofNat_of_zero_le h0
   by_cases hk : k < bs.length
   ·obtain ⟨ad, rfl, hlt, hcell⟩ := hb k hk
    have hT : ctTold bs (k : Int) = bs.getD k false := by simp [ctTold]
    rw [hT]
    generalize bs.getD k false = bb at *
    have hki : (k : Int) < (bs.length : Int) := by omega
    obtain ⟨ab, ao, asp⟩ := ad
    clear hb hT
    go_enter Tryz.func106, Tryz.ntmps106
    go_wp2
    go_ret
    exact ⟨rfl, rfl⟩
   ·have hT : ctTold bs (k : Int) = false := by simp [ctTold, List.getD_eq_getElem?_getD, List.getElem?_eq_none (show bs.length <= k by omega)]
    rw [hT]
    have hki : ¬ (k : Int) < (bs.length : Int) := by omega
    clear hb hT
    go_enter Tryz.func106, Tryz.ntmps106
    go_wp2
    go_ret
    exact ⟨rfl, rfl⟩
  ·have hT : ctTold bs n = false := by simp [ctTold, h1, h0]
   have hq : (n == -1) = false := by simpa using h1
   rw [hT]
   clear hb hT
   go_enter Tryz.func106, Tryz.ntmps106
   go_wp2
   go_ret
   exact ⟨rfl, rfl⟩
theorem clone_cl (c : List Int) (a : Option Addr) (cap : Nat) (w : World) (hp : PlA a) (hi : IntsK 0 w a c) (hl : c.length <= 100000) (h0 : a = none -> c = []) :
  Calls Tryz.prog 107 #[.slice a c.length cap] w fun e w' => ∃ a' cap', e = .returned (.slice a' c.length cap') /\ c.length <= cap' /\ cap' <= 9223372036854775807 /\ IntsK 0 w' a' c /\ Below w.heap.size w w' := by
 obtain ⟨i0, hin, hz0, hz1, hz2⟩ := info_parts infoInt
 cases a with
 | none =>
  obtain rfl := h0 rfl
  exact (AnyE.slices_Clone_nil Tryz.clnCl 0 cap w).mono fun e w' ⟨he, hw⟩ => ⟨none, 0, he, Nat.le_refl _, by omega, (fun i hi => by simp at hi), by rw [hw]; exact Below.refl _ _⟩
 | some ad =>
  obtain ⟨b, o, sp⟩ := ad
  obtain rfl : sp = none := hp _ rfl
  refine (AnyE.slices_Clone Tryz.clnCl i0 _ 1 8 hin hz0 hz1 hz2 rfl (by decide) Tryz.sizeOf3 b o c.length cap (icells c) w (by rw [icells_length]; omega) (by unfold maxLen; omega) (by omega) (fun j u hu => ?_) (fun u hu => by obtain ⟨y, _, rfl⟩ := List.mem_map.1 hu; rfl)).mono fun e w' ⟨v', he, h1, _, h3⟩ => ?_
  ·have hj : j < c.length := by have := (List.getElem?_eq_some_iff.1 hu).1; rwa [icells_length] at this
   rw [icells_at c j hj] at hu
   obtain ⟨ad, h1, _, _, h4⟩ := hi j hj
   cases h1
   rw [<- hu]
   rwa [add_plain] at h4
  ·obtain ⟨a', cap', rfl, h4, h5, h6, _⟩ := intsK_own (l := c) h1
   exact ⟨a', cap', he, h4, h5, h6, h3⟩
def onlyP (P : List (Int × List Int)) (bs : List Bool) (i : Nat) : List (List Int) := ctOnly (P.take i) bs
theorem onlyP_succ (P : List (Int × List Int)) (bs : List Bool) (i : Nat) (h : i < P.length) : onlyP P bs (i + 1) = onlyP P bs i ++ (if ctTold bs (P.getD i default).1 then [(P.getD i default).2] else []) := by
 unfold onlyP ctOnly
 rw [List.take_add_one, List.getElem?_eq_getElem h, List.filter_append, List.map_append, List.getD_eq_getElem?_getD, List.getElem?_eq_getElem h]
 congr 1
 simp only [Option.toList_some, Option.getD_some, List.filter_cons, List.filter_nil]
 split <;> simp
theorem onlyP_len (P : List (Int × List Int)) (bs : List Bool) (i : Nat) : (onlyP P bs i).length <= i := by
 unfold onlyP ctOnly
 rw [List.length_map]
 exact Nat.le_trans (List.length_filter_le _ _) (List.length_take_le _ _)
def CO (B : Nat) (W : World) (v : Value) (K : List (List Int)) : Prop := ∃ cs, W.ownsRow B 175 1 v K.length cs /\ ClsK 0 W cs K
theorem CO.new {B : Nat} {W W' : World} {v : Value} {K : List (List Int)} (h : CO B W v K) (hb : Below W.heap.size W W') : CO B W' v K := by
 obtain ⟨cs, h1, h2⟩ := h
 exact ⟨cs, row_new' h1 hb, h2.kp (Kp.new hb)⟩
theorem CO.app {B : Nat} {W w7 : World} {v v' : Value} {K : List (List Int)} {c : List Int} {a : Option Addr} {cap : Nat} {cs : List Value} (hB : B <= W.heap.size) (hrow : W.ownsRow B 175 1 v K.length cs) (hck : ClsK 0 W cs K)
  (hc1 : c.length <= cap) (hc2 : cap <= 9223372036854775807) (hi : IntsK 0 W a c)
  (hown : w7.ownsRow B 175 1 v' (K.length + 1) (cs ++ [.slice a c.length cap])) (hg : (W.alloc (.cells #[.slice a c.length cap] 175)).grownBy w7 v.ownBlock) : CO B w7 v' (K ++ [c]) /\ Below B W w7 := by
 have hbn := below_new W (.cells #[.slice a c.length cap] 175)
 have hk : Kp 0 (W.alloc (.cells #[.slice a c.length cap] 175)) w7 := Kp.grown (ownsRow_base (row_new' hrow hbn) (Nat.zero_le _)) hg (by decide)
 have hk3 := (Kp.new (B := 0) hbn).trans hk
 exact ⟨⟨_, by simpa using hown, (hck.kp hk3).snoc hc1 hc2 (hi.kp hk3)⟩, (hbn.mono hB).grown hg (by simp; omega) (fun k hk => (hrow.lt k hk).1)⟩
theorem RS.at {B : Nat} {W : World} {cv fv : Value} {P : List (Int × List Int)} (h : RS B W cv fv (P.map Prod.snd) (P.map Prod.fst)) (i : Nat) (hi : i < P.length) :
  ∃ cg cc fg fc a cap, cv = .slice (some ⟨cg, 0, none⟩) P.length cc /\ fv = .slice (some ⟨fg, 0, none⟩) P.length fc /\ W.cell? ⟨cg, i, none⟩ = some (.slice a (P.getD i default).2.length cap) /\ W.cell? ⟨fg, i, none⟩ = some (.int .i64 (P.getD i default).1) /\ IntsK 0 W a (P.getD i default).2 /\ PlA a := by
 obtain ⟨cs, h1, h2, _, h4⟩ := h.crow
 have h3 := h.frow
 obtain ⟨cg, cc, e1, _, hc1⟩ := (rowAt_own h1).cells (by rw [List.length_map]; omega)
 obtain ⟨fg, fc, e2, _, hc2⟩ := (rowAt_own h3).cells (by rw [List.length_map]; omega)
 obtain ⟨a, cap, q1, _, _, q4⟩ := h2.2 i (by simpa using hi)
 have g1 : (P.map Prod.snd).getD i [] = (P.getD i default).2 := by simp [List.getD_eq_getElem?_getD, hi]
 have g2 : (P.map Prod.fst).getD i 0 = (P.getD i default).1 := by simp [List.getD_eq_getElem?_getD, hi]
 rw [g1] at q1 q4
 refine ⟨cg, cc, fg, fc, a, cap, by simpa using e1, by simpa using e2, hc1 i _ q1, hc2 i _ (by rw [icells_at _ _ (by simpa using hi), g2]), q4, ?_⟩
 exact h4 _ (List.mem_of_getElem? q1) _ _ _ rfl
end
section
open Go.RowKit Go.Deep Sv
theorem RS.clause {B : Nat} {W : World} {cv fv : Value} {K : List (List Int)} {F : List Int} (h : RS B W cv fv K F) {i : Nat} (hi : i < K.length) : ∃ a cap, (K.getD i []).length <= cap /\ cap <= 9223372036854775807 /\ IntsK 0 W a (K.getD i []) /\ ∃ cg cc, cv = .slice (some ⟨cg, 0, none⟩) K.length cc /\ cg < W.heap.size /\ W.cell? ⟨cg, i, none⟩ = some (.slice a (K.getD i []).length cap) := by
 obtain ⟨cs, h1, h2, _, _⟩ := h.crow
 obtain ⟨a, cap, q1, q2, q3, q4⟩ := h2.2 i hi
 obtain ⟨g, c, e, hg, hc⟩ := (rowAt_own h1).cells (by omega)
 exact ⟨a, cap, q2, q3, q4, g, c, e, hg, hc i _ q1⟩
theorem ronly_any (B : Nat) (P : List (Int × List Int)) (cv fv : Value) (bs : List Bool) (la : Option Addr) (lc : Nat) (w : World) (hr : RS B w cv fv (P.map Prod.snd) (P.map Prod.fst)) (hb : BoolsIn w la bs) (hP : P.length <= 10000) :
  Calls Tryz.prog 54 #[cv, fv, .slice la bs.length lc] w fun e w' => ∃ v', e = .returned v' /\ CO w.heap.size w' v' (ctOnly P bs) /\ Below w.heap.size w w' := by
 obtain ⟨ca, cc, rfl, -⟩ : ∃ a c, cv = .slice a P.length c /\ True := by obtain ⟨cs, h1, _⟩ := hr.crow; obtain ⟨a, c, e, _⟩ := (rowAt_own h1).form; exact ⟨a, c, by simpa using e, trivial⟩
 obtain ⟨fa, fc, rfl, -⟩ : ∃ a c, fv = .slice a P.length c /\ True := by obtain ⟨a, c, e, _⟩ := (rowAt_own hr.frow).form; exact ⟨a, c, by simpa using e, trivial⟩
 obtain ⟨ic, hic, hc0', hc1', hc2'⟩ := info_parts infoCls
 have HR := Lib.hid hr
 have HBO := Lib.hid hb
 have HEND : Hid (onlyP P bs P.length = ctOnly P bs) := by show _ = _; unfold onlyP; rw [List.take_length]
 generalize ctOnly P bs = RES at *
 clear hr hb
 go_enter Tryz.func54, Tryz.ntmps54
 go_wp2_with fail
 go_loopw [7, 12] (fun oV iV wr => ∃ (i : Nat), i <= P.length /\ iV = .int .i64 (i : Int) /\ CO w.heap.size wr oV (onlyP P bs i) /\ Below w.heap.size w wr) (fun _ iV _ => P.length - (intOf iV).toNat)
 case atStart => exact ⟨0, Nat.zero_le _, rfl, ⟨[], World.ownsRow_nil _ _ _ _, ClsK.nil⟩, Below.refl _ _⟩
 case round =>
  obtain ⟨i, hi, rfl, hco, hbw⟩ := hrel
  obtain ⟨ca0, cc0, rfl⟩ : ∃ a c, _ = Value.slice a (onlyP P bs i).length c := by obtain ⟨cs, h1, _⟩ := hco; obtain ⟨a, c, e, _⟩ := (rowAt_own h1).form; exact ⟨a, c, e⟩
  have HCO := Lib.hid hco
  have HBW := Lib.hid hbw
  have hws := hbw.size
  by_cases hlt : i < P.length
  ·obtain ⟨a, cap, t1, t2, t3, cg, cc', e1, hcg, q1⟩ := (HR.out.new hbw).clause (i := i) (by simpa using hlt)
   obtain ⟨fg, fc', e2, hfg, hfc⟩ := (rowAt_own (HR.out.new hbw).frow).cells (by simp; omega)
   simp at e1 e2
   obtain ⟨rfl, rfl⟩ := e1
   obtain ⟨rfl, rfl⟩ := e2
   have HSU := Lib.hid (onlyP_succ P bs i hlt)
   have hol := onlyP_len P bs i
   obtain ⟨f, hfe⟩ : ∃ f, (P.getD i default).1 = f := ⟨_, rfl⟩
   obtain ⟨c, hce⟩ : ∃ c, (P.getD i default).2 = c := ⟨_, rfl⟩
   have hPi : P[i]? = some (f, c) := by rw [<- hfe, <- hce, List.getD_eq_getElem?_getD, List.getElem?_eq_getElem hlt]; rfl
   have hcl : (P.map Prod.snd).getD i [] = c := by rw [List.getD_eq_getElem?_getD, List.getElem?_map, hPi]; rfl
   rw [hcl] at t1 t3 q1
   rw [hfe, hce] at HSU
   have q2 : wr.cell? ⟨fg, i, none⟩ = some (.int .i64 f) := hfc i _ (by simp [icells, hPi])
   have hii0 : (0 : Int) <= (i : Int) := by omega
   have hii1 : (i : Int) < (P.length : Int) := by omega
   have HT3 := Lib.hid t3
   obtain ⟨cs, hrow, hck⟩ := HCO.out
   have HROW := Lib.hid hrow
   have HCK := Lib.hid hck
   have HBR := Lib.hid (HBO.out.below hbw (Nat.le_refl _))
   clear hfe hce hPi hcl t3 hco hbw hfc hrow hck
   go_upto_region 5 with fail
   go_cut [12, 46] from 12 to 51 (fun kV bV wx => kV = .int .i64 (i : Int) /\ bV = .bool (ctTold bs f) /\ wx = wr)
   case first =>
    by_cases h1 : f = -1
    ·subst h1
     have HT : Hid (ctTold bs (-1) = true) := by show _ = _; simp [ctTold]
     go_wp2
     go_meet
     case rel => exact ⟨rfl, by rw [HT.out], rfl⟩
    ·have hq : (f == -1) = false := by simpa using h1
     by_cases h0 : 0 <= f
     ·obtain ⟨k, rfl⟩ := Int.eq_ofNat_of_zero_le h0
      by_cases hk : k < bs.length
      ·obtain ⟨ad, rfl, hlt2, hcell⟩ := HBR.out k hk
       have HT : Hid (ctTold bs (k : Int) = bs.getD k false) := by show _ = _; simp [ctTold]
       generalize bs.getD k false = bb at *
       have hki : (k : Int) < (bs.length : Int) := by omega
       have hk0 : (0 : Int) <= (k : Int) := by omega
       obtain ⟨ab, ao, asp⟩ := ad
       go_wp2
       go_meet
       case rel => exact ⟨rfl, by rw [HT.out], rfl⟩
      ·have HT : Hid (ctTold bs (k : Int) = false) := by show _ = _; simp [ctTold, List.getD_eq_getElem?_getD, List.getElem?_eq_none (show bs.length <= k by omega)]
       have hki : ¬ (k : Int) < (bs.length : Int) := by omega
       go_wp2
       go_meet
       case rel => exact ⟨rfl, by rw [HT.out], rfl⟩
     ·have HT : Hid (ctTold bs f = false) := by show _ = _; simp [ctTold, h1, h0]
      go_wp2
      go_meet
      case rel => exact ⟨rfl, by rw [HT.out], rfl⟩
   case rest =>
    obtain ⟨rfl, rfl, hwc⟩ := hcut
    subst hwc
    clear q1 q2
    cases htd : ctTold bs f with
    | true =>
     rw [htd] at HSU
     clear htd
     go_wp2_with (at_builtin; refine wpList_append_own_at _ rfl _ _ 93 rfl w.heap.size 175 ic (.slice none 0 0) 1 24 Tryz.underlying93 hic hc0' hc1' hc2' rfl (by decide) _ _ _ rfl (HROW.out.alloc _) ⟨wc.heap.size, 0, none⟩ 1 1 [.slice a c.length cap] rfl rfl ?c1 ?c2 ?c3 ?c4 ?c5 ?_)
     try (case c1 => exact clit _ _ _)
     case c2 => first | rfl | (intro u hu; rw [List.mem_singleton] at hu; subst hu; rfl)
     case c3 => unfold maxLen; omega
     case c4 => omega
     case c5 => first | omega | (simp; omega)
     intro v7 w7 hown7 hgrow7 _ hloc7
     obtain ⟨hco7, hb7⟩ := CO.app (by omega) HROW.out HCK.out t1 t2 HT3.out hown7 hgrow7
     have HC7 : Hid (CO w.heap.size w7 v7 (onlyP P bs (i + 1))) := by show CO _ _ _ _; rw [HSU.out, if_pos (by simp)]; exact hco7
     have HB7 : Hid (Below w.heap.size w w7) := HBW.out.trans hb7
     clear hown7 hgrow7 hloc7 hco7 hb7 HROW HCK HT3 HSU
     go_wp2
     go_roundw
     case rel => exact ⟨i + 1, hlt, by go_num, HC7.out, HB7.out⟩
     case measure => simp [intOf]; omega
    | false =>
     rw [htd] at HSU
     clear htd
     have HC7 : Hid (CO w.heap.size wc (.slice ca0 (onlyP P bs i).length cc0) (onlyP P bs (i + 1))) := by show CO _ _ _ _; rw [HSU.out, if_neg (by simp), List.append_nil]; exact HCO.out
     clear HROW HCK HT3 HSU HCO
     go_wp2
     go_roundw
     case rel => exact ⟨i + 1, hlt, by go_num, HC7.out, HBW.out⟩
     case measure => simp [intOf]; omega
  ·obtain rfl : i = P.length := by omega
   have hni : ¬ (P.length : Int) < (P.length : Int) := by omega
   clear hco hbw
   go_wp2
   go_ret
   exact ⟨_, rfl, by rw [<- HEND.out]; exact HCO.out, HBW.out⟩
end
section
open Sv
theorem lns_cut (s : ByteArray) : ∀ (f k : Nat), s.size <= k + f -> k <= s.size -> lnsF s f k = (cutB s ⟨#[10]⟩ f k).filter (fun x => decide (x.2.size ≠ 0)) := by
 intro f
 induction f with
 | zero =>
  intro k h1 h2
  obtain rfl : k = s.size := by omega
  simp [lnsF, cutB]
 | succ f ih =>
  intro k h1 h2
  have hL : (s.extract k s.size).data.toList = s.data.toList.drop k := ext_end s k
  have hsz : (s.extract k s.size).size = s.size - k := by simp [ByteArray.size_extract]
  rcases Nat.lt_or_ge k s.size with hk | hk
  ·rw [lnsF_step hk, cutB]
   by_cases hi : Lib.index (s.extract k s.size).data.toList [10] < 0
   ·have e : cutF (s.extract k s.size) 10 = (s.extract k s.size, ⟨#[]⟩) := by
     unfold cutF Lib.cut
     rw [if_neg (by omega)]
    rw [if_pos hi, e, lnsF_end (by simp only; omega)]
    by_cases h0 : (s.extract k s.size).size = 0
    ·omega
    ·simp only [if_neg h0, List.append_nil]
     rw [List.filter_cons, if_pos (decide_eq_true h0), List.filter_nil]
   ·obtain ⟨j, hj⟩ : ∃ j : Nat, Lib.index (s.extract k s.size).data.toList [10] = (j : Int) := ⟨(Lib.index (s.extract k s.size).data.toList [10]).toNat, by omega⟩
    have hroom := index_room (s.extract k s.size).data.toList [10] (by omega)
    rw [hj] at hroom
    have hlen : (s.extract k s.size).data.toList.length = s.size - k := by rw [Array.length_toList]; exact hsz
    simp only [List.length_cons, List.length_nil, Int.toNat_natCast] at hroom
    have e1 : (cutF (s.extract k s.size) 10).1 = s.extract k (k + j) := by
     unfold cutF Lib.cut
     rw [if_pos (by omega)]
     simp only
     rw [hj]
     refine ba_ext ?_
     simp only [Int.toNat_natCast]
     rw [hL, ext_list', List.take_drop]
    have e2 : (s.extract k (k + j)).size = j := by
     simp only [ByteArray.size_extract]
     omega
    rw [if_neg hi, e1, e2]
    simp only
    rw [hj]
    simp only [Int.toNat_natCast]
    rw [ih (k + j + 1) (by omega) (by omega)]
    show _ = List.filter _ (_ :: cutB s ⟨#[10]⟩ f (k + j + 1))
    rw [List.filter_cons]
    by_cases hj0 : j = 0
    ·rw [if_pos hj0, if_neg (by rw [e2]; simp [hj0])]; rfl
    ·rw [if_neg hj0, if_pos (by rw [e2]; simp [hj0])]; rfl
  ·obtain rfl : k = s.size := by omega
   rw [lnsF_end (Nat.le_refl _)]
   have he : (s.extract s.size s.size).data.toList = [] := by rw [hL]; simp
   rw [cutB]
   show [] = List.filter _ (if Lib.index (s.extract s.size s.size).data.toList [10] < 0 then _ else _)
   rw [he]
   have : Lib.index ([] : List UInt8) [10] < 0 := by decide
   rw [if_pos this]
   simp
end
section
open Go.RowKit Go.Shelf Sv
theorem rline_ver (s : ByteArray) (w : World) (hs : s.size <= 100000) (hw : Lb w) (hF : FineR w) (ad : Addr) (cap : Nat) (hK : KindsAt w ad cap) (K : Nat) (hK13 : K = 1 \/ K = 2 \/ K = 3) (hk : kindF (cutF s 32).1 = K) (ke : Int) (hver : versF (cutF (cutF (cutF s 32).2 32).2 32).1 = .error ke) : Calls Tryz.prog 44 #[.string s] w (RlRes w (.error (ke, none))) := by
 have hK4 : ((K : Int) == 4) = false := by rw [beq_eq_false_iff_ne]; omega
 have hK0 : ((K : Int) == 0) = false := by rw [beq_eq_false_iff_ne]; omega
 have k0 := (Blk.new w 79 z7).alloc (.cells #[.int .i64 0, .int .i64 0] 26)
 have k1 := Blk.new (w.alloc (.cells z7 79)) 26 #[.int .i64 0, .int .i64 0]
 rw [World.size_alloc] at k1
 have hB0 : Below w.heap.size w ((w.alloc (.cells z7 79)).alloc (.cells #[.int .i64 0, .int .i64 0] 26)) := ((Below.refl _ w).alloc (Nat.le_refl _) _).alloc (by simp) _
 have HK0 := Lib.hid k0
 have HK1 := Lib.hid k1
 have HB0 := Lib.hid hB0
 have HN1 := Lib.hid (fun W => rnext_any s W hs)
 have hz2 := (cutF_size s 32).2
 have HLW := Lib.hid hw
 have HFN := Lib.hid hF
 have HKD := Lib.hid hK
 obtain ⟨w1, hw1⟩ : ∃ w1, (cutF s 32).1 = w1 := ⟨_, rfl⟩
 obtain ⟨s2, hs2⟩ : ∃ s2, (cutF s 32).2 = s2 := ⟨_, rfl⟩
 rw [hw1] at hk HN1
 rw [hs2] at hz2 HN1
 have hz2' : s2.size <= 100000 := by omega
 have HKX : Hid (∀ k, 1 <= k -> k <= 4 -> ((⟨(wl k).toArray⟩ : ByteArray).toList == w1.toList) = decide (kindF w1 = k)) := fun k h1 h4 => kind_lt h1 h4
 rw [hk] at HKX
 have HN2 := Lib.hid (fun W => rnext_any s2 W hz2')
 have hz3 := (cutF_size s2 32).2
 obtain ⟨nm, hnm⟩ : ∃ nm, (cutF s2 32).1 = nm := ⟨_, rfl⟩
 obtain ⟨s3, hs3⟩ : ∃ s3, (cutF s2 32).2 = s3 := ⟨_, rfl⟩
 rw [hnm] at HN2
 rw [hs3] at hz3 HN2
 have hz3' : s3.size <= 100000 := by omega
 have HN3 := Lib.hid (fun W => rnext_any s3 W hz3')
 have hz4 := cutF_size s3 32
 obtain ⟨vw, hvw⟩ : ∃ vw, (cutF s3 32).1 = vw := ⟨_, rfl⟩
 obtain ⟨s4, hs4⟩ : ∃ s4, (cutF s3 32).2 = s4 := ⟨_, rfl⟩
 rw [hvw, hs4] at hz4 HN3
 have hz4' : s4.size <= 100000 := by omega
 have HVP0 : ∀ W, Below w.heap.size w W -> Calls Tryz.prog 97 #[.string vw] W fun e w' => e = .returned (rversV (versF vw)) /\ Below W.heap.size W w' := fun W hb => rvparse_any splitC vw W (by omega) (hw.below hb)
 rw [hs2, hs3, hvw] at hver
 rw [hver] at HVP0
 have hke := versF_err hver
 have hke' : (ke != 0) = true := by simpa using hke
 have HVP : Hid (∀ W, Below w.heap.size w W -> Calls Tryz.prog 97 #[.string vw] W fun e w' => e = .returned (.tuple #[.agg #[.int .i64 0, .int .i64 0, .int .i64 0], .int .i64 ke]) /\ Below W.heap.size W w') := HVP0
 clear HVP0 hke hver hz3 hz4 hnm hs3 hvw hs4
 clear k0 k1 hB0 hw hF hK hz2 hs
 go_enter Tryz.func44, Tryz.ntmps44
 go_wp2_with fail
 generalize (w.alloc (.cells z7 79)).alloc (.cells #[.int .i64 0, .int .i64 0] 26) = W0 at *
 refine (HN1.out _).mono ?_
 rintro e wA ⟨rfl, hbA⟩
 have hx := Blk.new wA 79 z7
 have hA : Below wA.heap.size wA (wA.alloc (.cells z7 79)) := (Below.refl _ _).alloc (Nat.le_refl _) _
 have hA0 : Below W0.heap.size W0 (wA.alloc (.cells z7 79)) := hbA.trans (hA.mono hbA.size)
 have hLR : LR w (wA.alloc (.cells z7 79)) wA.heap.size z7 := ⟨HK0.out.below hA0 HK0.out.lt, HK1.out.below hA0 HK1.out.lt, hx, Nat.lt_of_lt_of_le HK1.out.lt hbA.size, HB0.out.trans (hA0.mono HB0.out.size)⟩
 have HLR := Lib.hid hLR
 clear hbA hx hA hA0 hLR HN1 HK0 HK1 HB0
 go_wp2_with fail
 generalize wA.alloc (.cells z7 79) = W1 at *
 obtain ⟨b, hb⟩ : ∃ b, wA.heap.size = b := ⟨_, rfl⟩
 rw [hb] at HLR ⊢
 clear hb
 go_loopw [7] (fun kV wr => ∃ k : Nat, 1 <= k /\ k <= 5 /\ kV = .int .i64 (k : Int) /\ LR w wr b (x7 (kup K k) ⟨#[]⟩ 0 0 0 ⟨#[]⟩ (.slice none 0 0))) (fun kV _ => 5 - (intOf kV).toNat)
 case atStart => exact ⟨1, by omega, by omega, rfl, by rw [show kup K 1 = 0 by unfold kup; split <;> omega]; exact HLR.out⟩
 case round =>
  clear HLR
  obtain ⟨k, hk1, hk5, rfl, hLR⟩ := hrel
  have HL := Lib.hid hLR
  clear hLR
  by_cases hlt : k <= 4
  ·have hkd := HKD.out.below HL.out.B
   have g0 := hkd.c
   have g1 := hkd.s k (by omega)
   have hc := HKX.out k hk1 hlt
   have x0 : wr.cell? ⟨b, 0, none⟩ = some (.int .i64 ((kup K k : Nat) : Int)) := HL.out.x.cell 0
   have xf := HL.out.x.frozen 0
   clear hkd
   by_cases he : K = k
   ·have hst := HL.out.set 0 (.int .i64 (k : Int))
    have HST : Hid (LR w (wr.setCell ⟨b, 0, none⟩ (.int .i64 (k : Int))) b (x7 (kup K (k + 1)) ⟨#[]⟩ 0 0 0 ⟨#[]⟩ (.slice none 0 0))) := by
     have e : kup K (k + 1) = k := by unfold kup; rw [if_pos (by omega)]; exact he
     rw [e]; exact hst
    rw [decide_eq_true he] at hc
    generalize kup K k = KU at *
    generalize (⟨(wl k).toArray⟩ : ByteArray) = WK at *
    clear hst he
    go_wp2
    go_roundw
    case rel => exact ⟨k + 1, by omega, by omega, by go_num, HST.out⟩
    case measure => simp [intOf]; omega
   ·have HST : Hid (LR w wr b (x7 (kup K (k + 1)) ⟨#[]⟩ 0 0 0 ⟨#[]⟩ (.slice none 0 0))) := by
     have e : kup K (k + 1) = kup K k := by
      unfold kup
      by_cases h : K < k
      ·rw [if_pos h, if_pos (by omega)]
      ·rw [if_neg h, if_neg (by omega)]
     rw [e]; exact HL.out
    rw [decide_eq_false he] at hc
    generalize kup K k = KU at *
    generalize (⟨(wl k).toArray⟩ : ByteArray) = WK at *
    clear he
    go_wp2
    go_roundw
    case rel => exact ⟨k + 1, by omega, by omega, by go_num, HST.out⟩
    case measure => simp [intOf]; omega
  ·obtain rfl : k = 5 := by omega
   have hku : kup K 5 = K := by unfold kup; rw [if_pos (by omega)]
   rw [hku] at HL
   clear hku
   have xc0 : wr.cell? ⟨b, 0, none⟩ = some (.int .i64 (K : Int)) := HL.out.x.cell 0
   go_wp2_with fail
   refine (HN2.out _).mono ?_
   rintro e wB ⟨rfl, hb⟩
   have HLB := Lib.hid (HL.out.step hb)
   clear hb HN2 HL
   have xb0 : wB.cell? ⟨b, 0, none⟩ = some (.int .i64 (K : Int)) := HLB.out.x.cell 0
   have xb1 : wB.cell? ⟨b, 1, none⟩ = some (.string ⟨#[]⟩) := HLB.out.x.cell 1
   have xg1 := HLB.out.x.frozen 1
   have HL2 : Hid (LR w (wB.setCell ⟨b, 1, none⟩ (.string nm)) b (x7 K nm 0 0 0 ⟨#[]⟩ (.slice none 0 0))) := HLB.out.set 1 (.string nm)
   have y0 : (wB.setCell ⟨b, 1, none⟩ (.string nm)).cell? ⟨b, 0, none⟩ = some (.int .i64 (K : Int)) := HL2.out.x.cell 0
   clear HLB xc0
   go_wp2_with fail
   generalize wB.setCell ⟨b, 1, none⟩ (.string nm) = W2 at *
   clear xb0 xb1 xg1
   refine (HN3.out _).mono ?_
   rintro e wC ⟨rfl, hb⟩
   have HL3 := Lib.hid (HL2.out.step hb)
   have HV3 := Lib.hid (HVP.out _ HL3.out.B)
   clear hb HN3 HL2 y0 HVP
   go_wp2_with fail
   refine HV3.out.mono ?_
   rintro e wD ⟨rfl, hb⟩
   have HL4 := Lib.hid (HL3.out.step hb)
   have kv := Blk.new wD 48 #[.int .i64 0, .int .i64 0, .int .i64 0]
   have hbv : Below wD.heap.size wD (wD.alloc (.cells #[.int .i64 0, .int .i64 0, .int .i64 0] 48)) := (Below.refl _ _).alloc (Nat.le_refl _) _
   have HL := Lib.hid (HL4.out.step hbv)
   have HKV := Lib.hid kv
   clear hb hbv HL3 HL4 HV3 kv
   have HBR := Lib.hid (refBare ke (wD.alloc (.cells #[.int .i64 0, .int .i64 0, .int .i64 0] 48)))
   clear HKV
   go_wp2_with fail
   generalize wD.alloc (.cells #[.int .i64 0, .int .i64 0, .int .i64 0] 48) = W5 at *
   refine HBR.out.mono ?_
   rintro e wE ⟨rfl, hbE⟩
   have hE := HL.out.step hbE
   have zc0 : wE.cell? ⟨w.heap.size, 0, none⟩ = some (.int .i64 0) := hE.z.cell 0
   have zc1 : wE.cell? ⟨w.heap.size, 1, none⟩ = some (.string ⟨#[]⟩) := hE.z.cell 1
   have zc2 : wE.cell? ⟨w.heap.size, 2, none⟩ = some (.int .i64 0) := hE.z.cell 2
   have zc3 : wE.cell? ⟨w.heap.size, 3, none⟩ = some (.int .i64 0) := hE.z.cell 3
   have zc4 : wE.cell? ⟨w.heap.size, 4, none⟩ = some (.int .i64 0) := hE.z.cell 4
   have zc5 : wE.cell? ⟨w.heap.size, 5, none⟩ = some (.string ⟨#[]⟩) := hE.z.cell 5
   have zc6 : wE.cell? ⟨w.heap.size, 6, none⟩ = some (.slice none 0 0) := hE.z.cell 6
   have zf0 := hE.z.frozen 0
   have zf1 := hE.z.frozen 1
   have zf2 := hE.z.frozen 2
   have zf3 := hE.z.frozen 3
   have zf4 := hE.z.frozen 4
   have zf5 := hE.z.frozen 5
   have zf6 := hE.z.frozen 6
   have fc0 : wE.cell? ⟨w.heap.size + 1, 0, none⟩ = some (.int .i64 0) := hE.f.cell 0
   have fc1 : wE.cell? ⟨w.heap.size + 1, 1, none⟩ = some (.int .i64 0) := hE.f.cell 1
   have ff0 := hE.f.frozen 0
   have ff1 := hE.f.frozen 1
   obtain ⟨Z, hZ, qz, qf, qB, -⟩ := hE.done (.int .i64 0) (.string ⟨#[]⟩) (.int .i64 0) (.int .i64 0) (.int .i64 0) (.string ⟨#[]⟩) (.slice none 0 0) (.int .i64 ke) (.int .i64 (-1))
   have HZ := Lib.hid hZ
   have HQZ := Lib.hid qz
   have HQF := Lib.hid qf
   have HQB := Lib.hid qB
   clear hZ qz qf qB hE hbE HBR HL
   go_wp2
   clear zc0 zc1 zc2 zc3 zc4 zc5 zc6 zf0 zf1 zf2 zf3 zf4 zf5 zf6 fc0 fc1 ff0 ff1
   rw [HZ.out]
   have r0 := HQZ.out.cell 0
   have r1 := HQZ.out.cell 1
   have r2 := HQZ.out.cell 2
   have r3 := HQZ.out.cell 3
   have r4 := HQZ.out.cell 4
   have r5 := HQZ.out.cell 5
   have r6 := HQZ.out.cell 6
   have s0 := HQF.out.cell 0
   have s1 := HQF.out.cell 1
   refine bodyPost_ret (v := .tuple #[.agg z7, .agg #[.int .i64 ke, .int .i64 (-1)]]) (by simp [results, Tryz.results44, go_sem, r0, r1, r2, r3, r4, r5, r6, s0, s1]) rfl ?_
   exact ⟨zeroLn, none, 0, ke, -1, rfl, nsAt_nil _, rg_nil, fun g hg => by simp [Value.ownBlock] at hg, HQB.out, rfl, rfl, rfl⟩
end
end Go.Proofs.YtmhophccdfmngaaGreatDoor
