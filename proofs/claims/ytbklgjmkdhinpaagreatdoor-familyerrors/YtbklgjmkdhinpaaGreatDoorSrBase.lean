/- A row of uints that is sorted in its place: what lies there, a swap. -/
import Derived.Test.YtbklgjmkdhinpaaGreatDoorCnCmp
import Derived.Test.YtbklgjmkdhinpaaGreatDoorCnAdd
import Derived.Test.YtbklgjmkdhinpaaGreatDoorFmWays
import Derived.Sort.AssemblyPlain
import Derived.BigRegion
import Derived.BigQuiet
set_option maxHeartbeats 4000000
set_option maxRecDepth 100000
namespace Go.Proofs.YtbklgjmkdhinpaaGreatDoor.Bd
open Go.RowKit Num Go.Sort
theorem fits_cmp {v v1 : Value} {a ds1 : List Nat} {w W : World} (ha : Dig .u64 w v a) (na : ∀ i, dig a i < 1000000000) (la : a.length <= 10000) (hd1 : Dig .u64 W v1 ds1) (hn1 : Norm 1000000000 ds1) (hv1 : val 1000000000 ds1 = 9223372036854775807) (hb : Below w.heap.size w W) :
  Calls Tryz.prog 87 #[.agg #[v], .agg #[v1]] W fun e w' => e = .returned (.int .i64 (cmpN (val 1000000000 a) 9223372036854775807)) /\ Below W.heap.size W w' := by
 have h3 : ds1.length <= 3 := norm_len (by omega) hn1 (by rw [hv1]; omega)
 have := cmp_any v v1 a ds1 W (ha.below hb) hd1 na hn1.small la (by omega)
 rwa [hv1] at this
theorem fits_any (v : Value) (a : List Nat) (w : World) (ha : Dig .u64 w v a) (na : ∀ i, dig a i < 1000000000) (la : a.length <= 10000) :
  Calls Tryz.prog 56 #[.agg #[v]] w fun e w' => (val 1000000000 a <= 9223372036854775807 -> e = .returned (.tuple #[.int .i64 (val 1000000000 a : Nat), .bool true])) /\ (9223372036854775807 < val 1000000000 a -> e = .returned (.tuple #[.int .i64 0, .bool false])) /\ Below w.heap.size w w' := by
 obtain ⟨aa, ca, eva, hca, hcella⟩ := id ha
 subst eva
 go_enter Tryz.func56, Tryz.ntmps56
 go_upto_region 1 with fail
 go_cut [10] (fun c wx => c = .bool (decide (9223372036854775807 < val 1000000000 a)) /\ Below (w.heap.size + 1) (w.alloc (.cells #[.slice aa a.length ca] 38)) wx)
 case first =>
  go_region_with (first
   | (go_at_call 60; refine (of_any _ _ (by omega) (by omega)).mono ?_; rintro e w1 ⟨v1, rfl, ds1, hd1, hn1, hv1, hb1⟩; have hbw : Below w.heap.size w w1 := (((Below.refl _ _).alloc (Nat.le_refl _) _).drew).trans (hb1.mono (by simp)); have hc1 : w1.cell? ⟨w.heap.size, 0, none⟩ = some (.slice aa a.length ca) := (hb1.cell (p := ⟨w.heap.size, 0, none⟩) (by simp)).trans (by simp))
   | (go_at_call 87; refine (fits_cmp ha na la hd1 hn1 hv1 hbw).mono ?_; rintro e w2 ⟨rfl, hb2⟩; have hbx : Below (w.heap.size + 1) (w.alloc (.cells #[.slice aa a.length ca] 38)) w2 := ((Below.refl _ _).drew.trans (hb1.mono (by simp))).trans (hb2.mono (by have := hb1.size; simp at this; omega))))
  all_goals
   go_wp2_with fail
   go_meet
   case rel => exact ⟨congrArg Value.bool (cmpN_pos _ _), hbx⟩
 case rest =>
  obtain ⟨rfl, hbel⟩ := hcut
  have hbw : Below w.heap.size w wc := ((Below.refl _ _).alloc (Nat.le_refl _) _).trans (hbel.mono (by omega))
  by_cases hbig : 9223372036854775807 < val 1000000000 a
  ·have hd : decide (9223372036854775807 < val 1000000000 a) = true := by simp [hbig]
   rw [hd]
   have HB : Hid (9223372036854775807 < val 1000000000 a) := hbig
   clear hd hbig
   go_wp2
   go_ret2
   exact ⟨fun h => by have := HB.out; omega, fun _ => rfl, hbw⟩
  ·have hd : decide (9223372036854775807 < val 1000000000 a) = false := by simp [hbig]
   rw [hd]
   have HB : Hid (val 1000000000 a <= 9223372036854775807) := by show _ <= _; omega
   clear hd hbig
   have c0 : wc.cell? ⟨w.heap.size, 0, none⟩ = some (.slice aa a.length ca) := (hbel.cell (p := ⟨w.heap.size, 0, none⟩) (by simp)).trans (by simp)
   go_wp2_with fail
   go_loop [5, 15] (fun o i => ∃ k t : Nat, k <= a.length /\ i = .int .i64 k /\ o = .int .i64 t /\ val 1000000000 a = t * 1000000000 ^ (a.length - k) + S 1000000000 (dig a) (a.length - k)) (fun _ i => a.length - (intOf i).toNat)
   case atStart => exact ⟨0, 0, Nat.zero_le _, rfl, rfl, by simp [val]⟩
   case round =>
    obtain ⟨k, t, hk, rfl, rfl, hval⟩ := hrel
    by_cases hlt : k < a.length
    ·obtain ⟨b, off, haa, hbb, hcl⟩ := hcella (a.length - 1 - k) (by omega)
     subst haa
     have hcl' : wc.cell? ⟨b, off + (a.length - 1 - k), none⟩ = some (.int .u64 ((dig a (a.length - 1 - k) : Nat) : Int)) := (hbw.cell (p := ⟨b, off + (a.length - 1 - k), none⟩) hbb).trans hcl
     have hval2 := hval
     rw [show a.length - k = (a.length - 1 - k) + 1 by omega] at hval2
     have hst := fits_step hval2
     have hle := fits_le (by omega) hst
     have HV := HB.out
     have hdd := na (a.length - 1 - k)
     have HS : Hid (val 1000000000 a = (t * 1000000000 + dig a (a.length - 1 - k)) * 1000000000 ^ (a.length - 1 - k) + S 1000000000 (dig a) (a.length - 1 - k)) := hst
     have hle2 : t * 1000000000 + dig a (a.length - 1 - k) <= 9223372036854775807 := by omega
     clear hst hval2 hval hcl hle HV
     have e1 : ((a.length : Int) - 1 - k).toNat = a.length - 1 - k := by omega
     generalize hD : dig a (a.length - 1 - k) = D at *
     have HD : Hid (dig a (a.length - 1 - k) = D) := hD
     clear hD
     go_wp2
     go_round
     case rel =>
      refine ⟨k + 1, t * 1000000000 + D, by omega, by go_num, by go_num, ?_⟩
      rw [show a.length - (k + 1) = a.length - 1 - k by omega]
      exact HS.out
     case measure => simp [intOf]; omega
    ·obtain rfl : k = a.length := by omega
     have HT : Hid (val 1000000000 a = t) := by show _ = _; simpa [S] using hval
     clear hval
     go_wp2
     go_ret2
     refine ⟨fun _ => ?_, fun h => by have := HB.out; omega, hbw⟩
     rw [HT.out]
     rfl
end Go.Proofs.YtbklgjmkdhinpaaGreatDoor.Bd
namespace Go.Proofs.YtbklgjmkdhinpaaGreatDoor.Fm
open Go.RowKit Go.Maps Go.Proofs.YtbklgjmkdhinpaaGreatDoor.Bd Go.Proofs.YtbklgjmkdhinpaaGreatDoor.Bd.Num
theorem ints1 (w : World) (x : Int) (hx : I64 x) : IntsAt (w.alloc (.cells #[.int .i64 x] 3)) w.heap.size [x] :=
 ⟨by simp, fun i hi => by simp at hi; subst hi; simp, fun y hy => by rw [List.mem_singleton] at hy; subst hy; exact hx⟩
section
variable {B s b : Nat} {O : Nat -> Prop} {vars room : Nat} {ns : List Nd}
theorem count_any (w : World) (hF : FamAt B w s b O vars room ns) (h : Int) (hh : hasB ns h = true) :
  Calls Tryz.prog 8 #[.pointer (some ⟨s, 0, none⟩), .int .i64 h] w fun e w' => ∃ v, e = .returned (.tuple #[v, .nilIface]) /\ NatAt w' v (nsN ns h) /\ Below w.heap.size w w' := by
 have hS := hF.space
 have hg := hF.good
 have hlen := hF.len
 have hl : ns.length <= 90000 := by omega
 have hv := hF.v24
 have hi := has_i64 hh (by omega)
 have hb1 := below_new w (.cells #[.slice none 0 0] 38)
 have s1 : (w.alloc (.cells #[.slice none 0 0] 38)).heap.size = w.heap.size + 1 := by simp
 have HP := present_any (cp := 1) ((hS.new hb1).new (below_new (w.alloc (.cells #[.slice none 0 0] 38)) (.cells #[.int .i64 h] 3))) (by omega) (w.alloc (.cells #[.slice none 0 0] 38)).heap.size [h] (ints1 (w.alloc (.cells #[.slice none 0 0] 38)) h hi) (by simp) (fun y hy => by rw [List.mem_singleton] at hy; subst hy; exact hh)
 rw [show [h].length = 1 from rfl, s1] at HP
 have HPR := Lib.hid HP
 have hb2 := hb1.alloc hb1.size (.cells #[.int .i64 h] 3)
 have s2 : ((w.alloc (.cells #[.slice none 0 0] 38)).alloc (.cells #[.int .i64 h] 3)).heap.size = w.heap.size + 1 + 1 := by rw [World.size_alloc, s1]
 have hb3 := hb2.alloc hb2.size (.map #[] 0)
 have hown := World.ownsMap_made ((w.alloc (.cells #[.slice none 0 0] 38)).alloc (.cells #[.int .i64 h] 3)) Tryz.prog 3 natR
 rw [s2] at hown
 have hD : DoneN (((w.alloc (.cells #[.slice none 0 0] 38)).alloc (.cells #[.int .i64 h] 3)).alloc (.map #[] 0)) (w.heap.size + 1 + 1) vars ns [] := ⟨⟨_, hown, Rep.empty⟩, (fun p hp => by cases hp), (fun p hp => by cases hp)⟩
 have hslt := hS.slt
 have HWA := ways_any (B := B) (s := s) (b := b) (dk := w.heap.size + 1 + 1) (O := O) (vars := vars) (room := (room : Int)) (ns := ns) hg hl hv (fun ho => by have := (hS.own _ ho).2; omega) (by omega) 24 h [] _ (hS.new hb3) hD hh (by have := (topOf_le hg.ranked h).1; omega)
 have HWY : Hid (Calls Tryz.prog 30 #[.pointer (some ⟨s, 0, none⟩), .int .i64 h, .map (some (w.heap.size + 1 + 1))] (((w.alloc (.cells #[.slice none 0 0] 38)).alloc (.cells #[.int .i64 h] 3)).alloc (.map #[] 0)) (CntOut (w.heap.size + 1 + 1) vars ns (nsN ns h) (((w.alloc (.cells #[.slice none 0 0] 38)).alloc (.cells #[.int .i64 h] 3)).alloc (.map #[] 0)))) := HWA
 have HBX : Hid (BoxAt (((w.alloc (.cells #[.slice none 0 0] 38)).alloc (.cells #[.int .i64 h] 3)).alloc (.map #[] 0)) w.heap.size) := ((boxAt_new w).new (below_new _ _)).new (below_new _ _)
 have HB3 := Lib.hid hb3
 have hmm := @run_makeMap Tryz.prog
 clear HP HWA hF hS hg hh hb1 hb2 hb3 hown hD
 generalize nsN ns h = m at *
 go_enter Tryz.func8, Tryz.ntmps8
 go_wp2_with fail
 refine HPR.out.mono ?_
 rintro e w1 ⟨rfl, rfl⟩
 clear HPR
 go_wp2_with fail
 refine HWY.out.mono ?_
 rintro e w4 ⟨v4, L4, rfl, hn, hD4, hk⟩
 generalize (((w.alloc (.cells #[.slice none 0 0] 38)).alloc (.cells #[.int .i64 h] 3)).alloc (.map #[] 0)) = W3 at *
 obtain ⟨x, rfl, hx⟩ := hn
 obtain ⟨xa, xn, xc⟩ := x
 have hn : NatAt w4 (NV.val ⟨xa, xn, xc⟩) m := ⟨_, rfl, hx⟩
 have hbx := HBX.out.kept hk (show w.heap.size ≠ w.heap.size + 1 + 1 by omega)
 have bc := hbx.c
 have bf := hbx.f
 have hcs : (w4.setCell ⟨w.heap.size, 0, none⟩ (.slice xa xn xc)).cell? ⟨w.heap.size, 0, none⟩ = some (.slice xa xn xc) := World.cell?_setCell_same _ _ _ bc
 have hb4 : Below w.heap.size w (w4.setCell ⟨w.heap.size, 0, none⟩ (.slice xa xn xc)) := (HB3.out.trans (hk.below HB3.out.size (fun j e => by omega))).setCell (Nat.le_refl _) _
 have HFIN : Hid (∃ v, Ending.returned (.tuple #[.agg #[.slice xa xn xc], .nilIface]) = .returned (.tuple #[v, .nilIface]) /\ NatAt (w4.setCell ⟨w.heap.size, 0, none⟩ (.slice xa xn xc)) v m /\ Below w.heap.size w (w4.setCell ⟨w.heap.size, 0, none⟩ (.slice xa xn xc))) := ⟨_, rfl, hn.box hbx.no _, hb4⟩
 clear hn hx hD4 hk hbx hb4 HWY HBX HB3
 unfold NV.val
 go_wp2
 refine bodyPost_ret (v := .tuple #[.agg #[.slice xa xn xc], .nilIface]) (by simp [results, Tryz.results8, go_sem, hcs]) rfl HFIN.out
theorem num_fits {w : World} {r : Value} {m : Nat} (h : NatAt w r m) (hm : m <= 100000000) : Calls Tryz.prog 56 #[r] w fun e w' => e = .returned (.tuple #[.int .i64 (m : Int), .bool true]) /\ Below w.heap.size w w' := by
 obtain ⟨s1, d1, rfl, g1, n1, v1, k1⟩ := h.open hm
 refine (fits_any s1 d1 w g1 n1.small (by omega)).mono ?_
 rintro e w' ⟨h1, -, hb⟩
 exact ⟨by rw [h1 (by rw [v1]; omega), v1], hb⟩
theorem listed_yes (w : World) (hF : FamAt B w s b O vars room ns) (h : Int) (hh : hasB ns h = true) (most : Int) (hm : (nsN ns h : Int) <= most) :
  Calls Tryz.prog 26 #[.pointer (some ⟨s, 0, none⟩), .int .i64 h, .int .i64 most] w fun e w' => e = .returned .nilIface /\ Below w.heap.size w w' := by
 have HC := Lib.hid (count_any w hF h hh)
 have hle := nsN_le ns h
 clear hF hh
 generalize nsN ns h = m at *
 go_enter Tryz.func26, Tryz.ntmps26
 go_wp2_with fail
 refine HC.out.mono ?_
 rintro e w1 ⟨v, rfl, hv, hb1⟩
 obtain ⟨⟨xa, xn, xc⟩, rfl, hx⟩ := hv
 have hv : NatAt w1 (.agg #[.slice xa xn xc]) m := ⟨⟨xa, xn, xc⟩, rfl, hx⟩
 have hb2 := below_new w1 (.cells #[.slice xa xn xc] 38)
 have bc : (w1.alloc (.cells #[.slice xa xn xc] 38)).cell? ⟨w1.heap.size, 0, none⟩ = some (.slice xa xn xc) := by simp
 have HFT := Lib.hid (num_fits (hv.new hb2) (by omega))
 have HB := Lib.hid (hb1.trans (hb2.mono hb1.size))
 clear hv hx hb1 hb2 HC
 unfold NV.val
 go_wp2_with fail
 refine HFT.out.mono ?_
 rintro e w2 ⟨rfl, hb3⟩
 have HB2 := Lib.hid (HB.out.trans (hb3.mono HB.out.size))
 have hlt : ¬ (m : Int) > most := by omega
 clear hb3 HFT HB
 go_wp2
 go_ret
 exact ⟨rfl, HB2.out⟩
end
end Go.Proofs.YtbklgjmkdhinpaaGreatDoor.Fm
namespace Go.Proofs.YtbklgjmkdhinpaaGreatDoor.Fm
open Go.RowKit Go.Maps Go.Proofs.YtbklgjmkdhinpaaGreatDoor.Bd
theorem nan_no (x : Int) (w : World) : Calls Tryz.prog 120 #[.int .u64 x] w fun e w' => e = .returned (.bool false) /\ w = w' := by
 go_enter Tryz.func120, Tryz.ntmps120
 go_wp2
 go_ret
 exact ⟨by simp, rfl⟩
theorem lessU_any (x y : Int) (w : World) : Calls Tryz.prog 94 #[.int .u64 x, .int .u64 y] w fun e w' => e = .returned (.bool (decide (x < y))) /\ w = w' := by
 go_enter Tryz.func94, Tryz.ntmps94
 go_wp2_with fail
 refine (nan_no x w).mono ?_
 rintro e w1 ⟨rfl, rfl⟩
 go_wp2
 go_ret
 exact ⟨rfl, rfl⟩
end Go.Proofs.YtbklgjmkdhinpaaGreatDoor.Fm
namespace Go.Proofs.YtbklgjmkdhinpaaGreatDoor.Fm
open Go.RowKit Go.Maps Go.Proofs.YtbklgjmkdhinpaaGreatDoor.Bd
theorem nsF_len (ns : List Nd) : ∀ (d : Nat) (h : Int) (x : Nat), nsF d ns h = (stF d ns h x).length
 | 0, h, x => by unfold nsF stF; split <;> rfl
 | d + 1, h, x => by
  unfold nsF stF
  split
  ·split <;> rfl
  ·rw [List.length_append, nsF_len ns d _ x, nsF_len ns d _ (x ||| 2 ^ (topOf ns h).toNat)]
theorem nsN_len (ns : List Nd) (h : Int) (x : Nat) : nsN ns h = (stL ns h x).length := nsF_len ns 24 h x
def UAt (w : World) (g : Nat) (l : List Nat) : Prop := g < w.heap.size /\ ∀ i, i < l.length -> w.cell? ⟨g, i, none⟩ = some (.int .u64 (l.getD i 0 : Nat))
theorem UAt.below {w w' : World} {g : Nat} {l : List Nat} (h : UAt w g l) (hb : Below w.heap.size w w') : UAt w' g l := ⟨Nat.lt_of_lt_of_le h.1 hb.size, fun i hi => (hb.cell (p := ⟨g, i, none⟩) h.1).trans (h.2 i hi)⟩
theorem row_u {N n c : Nat} {w : World} {a : Option Addr} {l : List Nat} (h : w.ownsRow N 46 1 (.slice a n c) l.length (ucells l)) (hne : 0 < l.length) : ∃ g, a = some ⟨g, 0, none⟩ /\ UAt w g l /\ n = l.length /\ N <= g := by
 rcases h.2 with ⟨-, e⟩ | ⟨g, cap, cur, e, h2, h3, h4⟩
 ·omega
 ·cases e
  have hlt := h.lt g rfl
  refine ⟨g, rfl, ⟨hlt.2, fun i hi => ?_⟩, rfl, hlt.1⟩
  have := h.cellAt i (by omega)
  rwa [ucells_at l i hi] at this
section
variable {B s b : Nat} {O : Nat -> Prop} {vars room : Nat} {ns : List Nd}
end
end Go.Proofs.YtbklgjmkdhinpaaGreatDoor.Fm
namespace Go.Proofs.YtbklgjmkdhinpaaGreatDoor.Sr
open Go.RowKit Go.Maps Go.Proofs.YtbklgjmkdhinpaaGreatDoor.Bd Go.Proofs.YtbklgjmkdhinpaaGreatDoor.Fm Go.Sort
structure UR (w : World) (g : Nat) (d : Array Int) : Prop where
 lt : g < w.heap.size
 cell : ∀ j, j < d.size -> w.cell? ⟨g, j, none⟩ = some (.int .u64 d[j]!)
 froz : ∀ j, j < d.size -> w.frozen? ⟨g, j, none⟩ = false
abbrev KG (g : Nat) (w w' : World) : Prop := Kept (fun j => j = g) w w'
section
variable {w w' : World} {g : Nat} {d : Array Int}
theorem UR.set (h : UR w g d) {i : Nat} (hi : i < d.size) (x : Int) : UR (w.setCell ⟨g, i, none⟩ (.int .u64 x)) g (d.setIfInBounds i x) := by
 refine ⟨by simpa using h.lt, fun j hj => ?_, fun j hj => ?_⟩
 ·rw [Array.size_setIfInBounds] at hj
  by_cases e : j = i
  ·subst e
   rw [World.cell?_setCell_same _ _ _ (h.cell j hj), getElem!_set_same d j x hj]
  ·rw [World.cell?_setCell_other _ _ _ _ (by intro e2; injection e2 with _ e3; exact e e3.symm), getElem!_set_other d i j x e]
   exact h.cell j hj
 ·rw [Array.size_setIfInBounds] at hj
  rw [World.frozen?_setCell]; exact h.froz j hj
theorem UR.swp (h : UR w g d) {i j : Nat} {x y : Int} (hi : i < d.size) (hj : j < d.size) (hx : x = d[i]!) (hy : y = d[j]!) : UR ((w.setCell ⟨g, i, none⟩ (.int .u64 y)).setCell ⟨g, j, none⟩ (.int .u64 x)) g (swp d i j) := by
 subst hx hy
 exact (h.set hi _).set (by simpa using hj) _
theorem UR.drew (h : UR w g d) : UR w.drew g d := ⟨h.lt, h.cell, h.froz⟩
theorem UR.drewN (h : UR w g d) (m : Nat) : UR (w.drewN m) g d := ⟨h.lt, h.cell, h.froz⟩
theorem KG.drewN (h : KG g w w') (m : Nat) : KG g w (w'.drewN m) := h.trans (Kept.of_below (below_drewN (Below.refl _ _) m) _)
theorem lessU_q (x y : Int) (w : World) : Calls Tryz.prog 94 #[.int .u64 x, .int .u64 y] w fun e w' => e = .returned (.bool (decide (x < y))) /\ w' = w := (lessU_any x y w).mono fun _ _ h => ⟨h.1, h.2.symm⟩
theorem KG.swp (w : World) (i j : Nat) (u v : Value) : KG g w ((w.setCell ⟨g, i, none⟩ u).setCell ⟨g, j, none⟩ v) := (Kept.setCell (S := fun k => k = g) w ⟨g, i, none⟩ u rfl).trans (Kept.setCell (S := fun k => k = g) _ ⟨g, j, none⟩ v rfl)
theorem KG.drew (h : KG g w w') : KG g w w'.drew := h.trans (Kept.of_below (Below.refl _ _).drew _)
end
theorem swp_size (d : Array Int) (i j : Nat) : (swp d i j).size = d.size := by simp [swp]
theorem rev_any (g cap : Nat) (d : Array Int) (a b : Nat) (w : World) (h : UR w g d) (hab : a < b) (hb : b <= d.size) (hsz : d.size <= 1000000) :
  Calls Tryz.prog 92 #[.slice (some ⟨g, 0, none⟩) d.size cap, .int .i64 (a : Int), .int .i64 (b : Int)] w fun e w' => e = .returned (.tuple #[]) /\ UR w' g (reverseRange d a b) /\ KG g w w' := by
 have h0 := Lib.hid h
 obtain ⟨n, hn⟩ : ∃ n, n = d.size := ⟨_, rfl⟩
 rw [<- hn] at hb hsz ⊢
 have HN := Lib.hid hn
 have hw1 : IntKind.i64.wrap ((b : Int) - 1) = ((b - 1 : Nat) : Int) := by rw [IntKind.wrap_i64]; omega
 clear h hn
 go_enter Tryz.func92, Tryz.ntmps92
 go_wp2_with fail
 go_loopw [6, 7] (fun iV jV wr => ∃ (i j : Nat) (dk : Array Int), iV = .int .i64 (i : Int) /\ jV = .int .i64 (j : Int) /\ i <= b /\ j < b /\ dk.size = n /\ UR wr g dk /\ KG g w wr /\ reverseLoop i j dk = reverseLoop a (b - 1) d) (fun iV _ _ => b - (intOf iV).toNat)
 case atStart => exact ⟨a, b - 1, d, rfl, rfl, by omega, by omega, HN.out.symm, h0.out, Kept.refl _ _, rfl⟩
 case round =>
  obtain ⟨i, j, dk, rfl, rfl, hi, hj, hdk, hU, hK, heq⟩ := hrel
  by_cases hlt : i < j
  ·have i1 : (i : Int) < (j : Int) := by omega
   have cx := hU.cell i (by omega)
   have cy := hU.cell j (by omega)
   have fx := hU.froz i (by omega)
   have fy := hU.froz j (by omega)
   have HU : Hid (∀ x y, x = dk[i]! -> y = dk[j]! -> UR ((wr.setCell ⟨g, i, none⟩ (.int .u64 y)).setCell ⟨g, j, none⟩ (.int .u64 x)).drew g (swp dk i j)) := fun x y hx hy => (hU.swp (by omega) (by omega) hx hy).drew
   have HK : Hid (∀ u v, KG g w ((wr.setCell ⟨g, i, none⟩ u).setCell ⟨g, j, none⟩ v).drew) := fun u v => (hK.trans (KG.swp _ _ _ _ _)).drew
   have HQ : Hid (reverseLoop (i + 1) (j - 1) (swp dk i j) = reverseLoop a (b - 1) d) := by
    have e : reverseLoop i j dk = reverseLoop (i + 1) (j - 1) (swp dk i j) := by rw [reverseLoop, if_pos hlt]
    rw [<- e]; exact heq
   obtain ⟨x, hx⟩ : ∃ x, x = dk[i]! := ⟨_, rfl⟩
   obtain ⟨y, hy⟩ : ∃ y, y = dk[j]! := ⟨_, rfl⟩
   have HU2 := Lib.hid (HU.out x y hx hy)
   rw [<- hx] at cx
   rw [<- hy] at cy
   have hne : ¬ i = j := by omega
   have w2 : IntKind.i64.wrap ((i : Int) + 1) = ((i + 1 : Nat) : Int) := by rw [IntKind.wrap_i64]; omega
   have w3 : IntKind.i64.wrap ((j : Int) - 1) = ((j - 1 : Nat) : Int) := by rw [IntKind.wrap_i64]; omega
   have i2 : (i : Int) < (n : Int) := by omega
   have i3 : (j : Int) < (n : Int) := by omega
   have hds : Hid ((swp dk i j).size = n) := by show _ = _; rw [swp_size, hdk]
   clear hU hK HU heq hx hy hdk
   go_wp2_with fail
   go_region
   go_wp2
   go_roundw
   case rel => exact ⟨i + 1, j - 1, swp dk i j, by go_num, rfl, by omega, by omega, hds.out, HU2.out, HK.out _ _, HQ.out⟩
   case measure => simp [intOf]; omega
  ·have HD := Lib.hid heq
   clear heq
   have i1 : ¬ (i : Int) < (j : Int) := by omega
   go_wp2
   refine bodyPost_end (v := .tuple #[]) (by simp [results, Tryz.results92, go_sem]) rfl ⟨rfl, ?_, hK⟩
   have := HD.out
   rw [reverseLoop, if_neg hlt] at this
   rw [reverseRange, <- this]; exact hU
end Go.Proofs.YtbklgjmkdhinpaaGreatDoor.Sr
