/- List of two sets; the fact 'sets'. -/
import Derived.Test.YtbklgjmkdhinpaaFmWays
import Derived.Test.YtbklgjmkdhinpaaCnFits
import Derived.Test.YtbklgjmkdhinpaaFmSetsW
set_option maxHeartbeats 2000000
set_option maxRecDepth 100000
namespace Go.Proofs.Ytbklgjmkdhinpaa.Fm
open Go.RowKit Go.Maps Go.Proofs.Ytbklgjmkdhinpaa.Bd Go.Proofs.Ytbklgjmkdhinpaa.Bd.Num
theorem ints1 (w : World) (x : Int) (hx : I64 x) : IntsAt (w.alloc (.cells #[.int .i64 x] 3)) w.heap.size [x] :=
 ⟨by simp, fun i hi => by simp at hi; subst hi; simp, fun y hy => by rw [List.mem_singleton] at hy; subst hy; exact hx⟩
section
variable {B s b : Nat} {O : Nat -> Prop} {vars room : Nat} {ns : List Nd}
theorem count_any (w : World) (hF : FamAt B w s b O vars room ns) (h : Int) (hh : hasB ns h = true) :
  Calls Try.prog 55 #[.pointer (some ⟨s, 0, none⟩), .int .i64 h] w fun e w' => ∃ v, e = .returned (.tuple #[v, .nilIface]) /\ NatAt w' v (nsN ns h) /\ Below w.heap.size w w' := by
 have hS := hF.space
 have hg := hF.good
 have hlen := hF.len
 have hl : ns.length <= 90000 := by omega
 have hv := hF.v24
 have hi := has_i64 hh (by omega)
 have hb1 := below_new w (.cells #[.slice none 0 0] 83)
 have s1 : (w.alloc (.cells #[.slice none 0 0] 83)).heap.size = w.heap.size + 1 := by simp
 have HP := present_any (cp := 1) ((hS.new hb1).new (below_new (w.alloc (.cells #[.slice none 0 0] 83)) (.cells #[.int .i64 h] 3))) (by omega) (w.alloc (.cells #[.slice none 0 0] 83)).heap.size [h] (ints1 (w.alloc (.cells #[.slice none 0 0] 83)) h hi) (by simp) (fun y hy => by rw [List.mem_singleton] at hy; subst hy; exact hh)
 rw [show [h].length = 1 from rfl, s1] at HP
 have HPR := Lib.hid HP
 have hb2 := hb1.alloc hb1.size (.cells #[.int .i64 h] 3)
 have s2 : ((w.alloc (.cells #[.slice none 0 0] 83)).alloc (.cells #[.int .i64 h] 3)).heap.size = w.heap.size + 1 + 1 := by rw [World.size_alloc, s1]
 have hb3 := hb2.alloc hb2.size (.map #[] 0)
 have hown := World.ownsMap_made ((w.alloc (.cells #[.slice none 0 0] 83)).alloc (.cells #[.int .i64 h] 3)) Try.prog 3 natR
 rw [s2] at hown
 have hD : DoneN (((w.alloc (.cells #[.slice none 0 0] 83)).alloc (.cells #[.int .i64 h] 3)).alloc (.map #[] 0)) (w.heap.size + 1 + 1) vars ns [] := ⟨⟨_, hown, Rep.empty⟩, (fun p hp => by cases hp), (fun p hp => by cases hp)⟩
 have hslt := hS.slt
 have HWA := ways_any (B := B) (s := s) (b := b) (dk := w.heap.size + 1 + 1) (O := O) (vars := vars) (room := (room : Int)) (ns := ns) hg hl hv (fun ho => by have := (hS.own _ ho).2; omega) (by omega) 24 h [] _ (hS.new hb3) hD hh (by have := (topOf_le hg.ranked h).1; omega)
 have HWY : Hid (Calls Try.prog 80 #[.pointer (some ⟨s, 0, none⟩), .int .i64 h, .map (some (w.heap.size + 1 + 1))] (((w.alloc (.cells #[.slice none 0 0] 83)).alloc (.cells #[.int .i64 h] 3)).alloc (.map #[] 0)) (CntOut (w.heap.size + 1 + 1) vars ns (nsN ns h) (((w.alloc (.cells #[.slice none 0 0] 83)).alloc (.cells #[.int .i64 h] 3)).alloc (.map #[] 0)))) := HWA
 have HBX : Hid (BoxAt (((w.alloc (.cells #[.slice none 0 0] 83)).alloc (.cells #[.int .i64 h] 3)).alloc (.map #[] 0)) w.heap.size) := ((boxAt_new w).new (below_new _ _)).new (below_new _ _)
 have HB3 := Lib.hid hb3
 have hmm := @run_makeMap Try.prog
 clear HP HWA hF hS hg hh hb1 hb2 hb3 hown hD
 generalize nsN ns h = m at *
 go_enter Try.func55, Try.ntmps55
 go_wp2_with fail
 refine HPR.out.mono ?_
 rintro e w1 ⟨rfl, rfl⟩
 clear HPR
 go_wp2_with fail
 refine HWY.out.mono ?_
 rintro e w4 ⟨v4, L4, rfl, hn, hD4, hk⟩
 generalize (((w.alloc (.cells #[.slice none 0 0] 83)).alloc (.cells #[.int .i64 h] 3)).alloc (.map #[] 0)) = W3 at *
 obtain ⟨x, rfl, hx⟩ := hn
 obtain ⟨xa, xn, xc⟩ := x
 have hn : NatAt w4 (NV.val ⟨xa, xn, xc⟩) m := ⟨_, rfl, hx⟩
 have hbx := HBX.out.kept hk (show w.heap.size ≠ w.heap.size + 1 + 1 by omega)
 have bc := hbx.c
 have bf := hbx.f
 have hcs : (w4.setCell ⟨w.heap.size, 0, none⟩ (.slice xa xn xc)).cell? ⟨w.heap.size, 0, none⟩ = some (.slice xa xn xc) := World.cell?_setCell_same _ _ _ bc
 have hb4 : Below w.heap.size w (w4.setCell ⟨w.heap.size, 0, none⟩ (.slice xa xn xc)) := (HB3.out.trans (hk.below HB3.out.size (fun j e => by omega))).setCell (Nat.le_refl _) _
 have HFIN : Hid (∃ v, Ending.returned (.tuple #[.agg #[.slice xa xn xc], .nilIface]) = .returned (.tuple #[v, .nilIface]) /\ NatAt (w4.setCell ⟨w.heap.size, 0, none⟩ (.slice xa xn xc)) v m /\ Below w.heap.size w (w4.setCell ⟨w.heap.size, 0, none⟩ (.slice xa xn xc))) := ⟨_, rfl, hn.box hbx.no _, hb4⟩
 clear hn hx hD4 hk hbx hb4 HWY HBX HB3
 unfold NV.val
 go_wp2
 refine bodyPost_ret (v := .tuple #[.agg #[.slice xa xn xc], .nilIface]) (by simp [results, Try.results55, go_sem, hcs]) rfl HFIN.out
theorem num_fits {w : World} {r : Value} {m : Nat} (h : NatAt w r m) (hm : m <= 100000000) : Calls Try.prog 56 #[r] w fun e w' => e = .returned (.tuple #[.int .i64 (m : Int), .bool true]) /\ Below w.heap.size w w' := by
 obtain ⟨s1, d1, rfl, g1, n1, v1, k1⟩ := h.open hm
 refine (fits_any s1 d1 w g1 n1.small (by omega)).mono ?_
 rintro e w' ⟨h1, -, hb⟩
 exact ⟨by rw [h1 (by rw [v1]; omega), v1], hb⟩
theorem listed_yes (w : World) (hF : FamAt B w s b O vars room ns) (h : Int) (hh : hasB ns h = true) (most : Int) (hm : (nsN ns h : Int) <= most) :
  Calls Try.prog 33 #[.pointer (some ⟨s, 0, none⟩), .int .i64 h, .int .i64 most] w fun e w' => e = .returned .nilIface /\ Below w.heap.size w w' := by
 have HC := Lib.hid (count_any w hF h hh)
 have hle := nsN_le ns h
 clear hF hh
 generalize nsN ns h = m at *
 go_enter Try.func33, Try.ntmps33
 go_wp2_with fail
 refine HC.out.mono ?_
 rintro e w1 ⟨v, rfl, hv, hb1⟩
 obtain ⟨⟨xa, xn, xc⟩, rfl, hx⟩ := hv
 have hv : NatAt w1 (.agg #[.slice xa xn xc]) m := ⟨⟨xa, xn, xc⟩, rfl, hx⟩
 have hb2 := below_new w1 (.cells #[.slice xa xn xc] 83)
 have bc : (w1.alloc (.cells #[.slice xa xn xc] 83)).cell? ⟨w1.heap.size, 0, none⟩ = some (.slice xa xn xc) := by simp
 have HFT := Lib.hid (num_fits (hv.new hb2) (by omega))
 have HB := Lib.hid (hb1.trans (hb2.mono hb1.size))
 clear hv hx hb1 hb2 HC
 unfold NV.val
 go_wp2_with fail
 refine HFT.out.mono ?_
 rintro e w2 ⟨rfl, hb3⟩
 have HB2 := Lib.hid (HB.out.trans (hb3.mono HB.out.size))
 have hlt : ¬ (m : Int) > most := by omega
 clear hb3 HFT HB
 go_wp2
 go_ret
 exact ⟨rfl, HB2.out⟩
theorem hits_any {w : World} (hF : FamAt B w s b O vars room ns) {a : Int} (ha : hasB ns a = true) (hn : nsN ns a <= 65536) (hroom : cntT vars ns + cost (rr vars (-1)) .hits + 18 < room) :
  Calls Try.prog 11 #[.pointer (some ⟨s, 0, none⟩), .int .i64 a] w (AskOut B s b O vars room .hits ns a 0 w) := by
 have HL := Lib.hid (listed_yes w hF a ha 65536 (by omega))
 have HA : Hid (∀ W, Below w.heap.size w W -> Calls Try.prog 34 #[.pointer (some ⟨s, 0, none⟩), .func (.func 35) #[] #[], .int .i64 a, .int .i64 0] W (AskOut B s b O vars room .hits ns a 0 W)) := fun W hW => asked_any mkc_hits (fun _ _ => by kernel_rfl) (hF.new hW) ha (end_has0 ns) (fun _ => rfl) hroom
 clear hF ha
 go_enter Try.func11, Try.ntmps11
 go_wp2_with fail
 refine HL.out.mono ?_
 rintro e w1 ⟨rfl, hb1⟩
 clear HL
 go_wp2_with fail
 refine (HA.out _ hb1).mono ?_
 rintro e w2 ⟨h, ns', O', rfl, h2, h3, hr⟩
 go_wp2
 go_ret2
 exact ⟨h, ns', O', rfl, h2, (Mv.of_below hb1).trans h3, hr⟩
end
end Go.Proofs.Ytbklgjmkdhinpaa.Fm
namespace Go.Proofs.Ytbklgjmkdhinpaa.Fm
open Go.RowKit Go.Maps Go.Proofs.Ytbklgjmkdhinpaa.Bd
theorem nan_no (x : Int) (w : World) : Calls Try.prog 108 #[.int .u64 x] w fun e w' => e = .returned (.bool false) /\ w = w' := by
 go_enter Try.func108, Try.ntmps108
 go_wp2
 go_ret
 exact ⟨by simp, rfl⟩
theorem lessU_any (x y : Int) (w : World) : Calls Try.prog 94 #[.int .u64 x, .int .u64 y] w fun e w' => e = .returned (.bool (decide (x < y))) /\ w = w' := by
 go_enter Try.func94, Try.ntmps94
 go_wp2_with fail
 refine (nan_no x w).mono ?_
 rintro e w1 ⟨rfl, rfl⟩
 go_wp2
 go_ret
 exact ⟨rfl, rfl⟩
theorem len64_two (w : World) : Calls Try.prog 98 #[.int .u64 2] w fun e w' => e = .returned (.int .i64 2) /\ Below w.heap.size w w' := by
 go_enter Try.func98, Try.ntmps98
 go_wp2
 go_ret
 exact ⟨congrArg (fun z => Ending.returned (Value.int .i64 z)) (show wrap64 (wrap64 (Lib.len8 2)) = 2 by decide +kernel), Below.refl _ _⟩
theorem len_two (w : World) : Calls Try.prog 63 #[.int .u64 2] w fun e w' => e = .returned (.int .i64 2) /\ Below w.heap.size w w' := by
 go_enter Try.func63, Try.ntmps63
 go_wp2_with fail
 refine (len64_two w).mono ?_
 rintro e w' ⟨rfl, hb⟩
 go_wp2
 go_ret
 exact ⟨rfl, hb⟩
theorem ins_two (g cap : Nat) (x y : Int) (hxy : x <= y) (w : World) (c0 : w.cell? ⟨g, 0, none⟩ = some (.int .u64 x)) (c1 : w.cell? ⟨g, 1, none⟩ = some (.int .u64 y)) :
  Calls Try.prog 88 #[.slice (some ⟨g, 0, none⟩) 2 cap, .int .i64 0, .int .i64 2] w fun e w' => e = .returned (.tuple #[]) /\ Below w.heap.size w w' := by
 have gl := (cells_at (a := ⟨g, 0, none⟩) c0).lt
 have HL : Hid (∀ W, Calls Try.prog 94 #[.int .u64 y, .int .u64 x] W fun e w' => e = .returned (.bool false) /\ W = w') := fun W => by
  have := lessU_any y x W
  rwa [show decide (y < x) = false by simp; omega] at this
 go_enter Try.func88, Try.ntmps88
 go_wp2_with fail
 refine wp_loop_rounds 2 ?_
 rw [rounds_succ]
 go_wp2_with fail
 refine wp_loop_rounds 1 ?_
 rw [rounds_succ]
 go_wp2_with fail
 have S0 : w.drew.cell? ⟨g, 0, none⟩ = some (.int .u64 x) /\ w.drew.cell? ⟨g, 1, none⟩ = some (.int .u64 y) := ⟨c0, c1⟩
 have hw1 : IntKind.i64.wrap (0 : Int) = 0 := by decide
 go_region_held3 (fun W => W.cell? ⟨g, 0, none⟩ = some (.int .u64 x) /\ W.cell? ⟨g, 1, none⟩ = some (.int .u64 y)) (exact S0)
  (first | (go_at_call 94; with_reducible refine (HL.out _).mono ?_; rintro e wz ⟨rfl, rfl⟩))
 go_wp2_with fail
 rw [rounds_succ]
 go_wp2
 refine bodyPost_end (v := .tuple #[]) (by simp [results, Try.results88, go_sem]) rfl ?_
 exact ⟨rfl, (Below.refl _ _).drew⟩
theorem pdq_two (g cap : Nat) (x y : Int) (hxy : x <= y) (w : World) (c0 : w.cell? ⟨g, 0, none⟩ = some (.int .u64 x)) (c1 : w.cell? ⟨g, 1, none⟩ = some (.int .u64 y)) :
  Calls Try.prog 62 #[.slice (some ⟨g, 0, none⟩) 2 cap, .int .i64 0, .int .i64 2, .int .i64 2] w fun e w' => e = .returned (.tuple #[]) /\ Below w.heap.size w w' := by
 have HI := Lib.hid (ins_two g cap x y hxy w c0 c1)
 go_enter Try.func62, Try.ntmps62
 go_wp2_with fail
 refine wp_loop_rounds 1 ?_
 rw [rounds_succ]
 go_wp2_with fail
 refine HI.out.mono ?_
 rintro e w' ⟨rfl, hb⟩
 go_wp2
 refine bodyPost_ret (v := .tuple #[]) (by simp [results, Try.results62, go_sem]) rfl ?_
 exact ⟨rfl, hb⟩
theorem sort_two (g cap : Nat) (x y : Int) (hxy : x <= y) (w : World) (c0 : w.cell? ⟨g, 0, none⟩ = some (.int .u64 x)) (c1 : w.cell? ⟨g, 1, none⟩ = some (.int .u64 y)) :
  Calls Try.prog 37 #[.slice (some ⟨g, 0, none⟩) 2 cap] w fun e w' => e = .returned (.tuple #[]) /\ Below w.heap.size w w' := by
 have gl := (cells_at (a := ⟨g, 0, none⟩) c0).lt
 go_enter Try.func37, Try.ntmps37
 go_wp2_with fail
 refine (len_two w).mono ?_
 rintro e w1 ⟨rfl, hb1⟩
 go_wp2_with fail
 refine (pdq_two g cap x y hxy w1 ((hb1.cell (p := ⟨g, 0, none⟩) gl).trans c0) ((hb1.cell (p := ⟨g, 1, none⟩) gl).trans c1)).mono ?_
 rintro e w2 ⟨rfl, hb2⟩
 have hb3 := hb1.trans (hb2.mono hb1.size)
 go_wp2
 refine bodyPost_end (v := .tuple #[]) (by simp [results, Try.results37, go_sem]) rfl ?_
 exact ⟨rfl, hb3⟩
end Go.Proofs.Ytbklgjmkdhinpaa.Fm
namespace Go.Proofs.Ytbklgjmkdhinpaa.Fm
open Go.RowKit Go.Maps Go.Proofs.Ytbklgjmkdhinpaa.Bd
theorem nsF_len (ns : List Nd) : ∀ (d : Nat) (h : Int) (x : Nat), nsF d ns h = (stF d ns h x).length
 | 0, h, x => by unfold nsF stF; split <;> rfl
 | d + 1, h, x => by
  unfold nsF stF
  split
  ·split <;> rfl
  ·rw [List.length_append, nsF_len ns d _ x, nsF_len ns d _ (x ||| 2 ^ (topOf ns h).toNat)]
theorem nsN_len (ns : List Nd) (h : Int) (x : Nat) : nsN ns h = (stL ns h x).length := nsF_len ns 24 h x
theorem allS_len : ∀ (n v : Nat), (allS n v).length = 2 ^ n
 | 0, _ => rfl
 | n + 1, v => by unfold allS; rw [List.length_append, List.length_map, allS_len n, Nat.pow_succ]; omega
theorem nsN_vars {vars : Nat} {ns : List Nd} (hg : Good vars ns) (hv : vars <= 24) {h : Int} (hh : hasB ns h = true) : nsN ns h <= 2 ^ vars := by
 rw [nsN_len ns h 0, stL_all hg hv hh, <- allS_len vars 0]
 exact List.length_filter_le _ _
def UAt (w : World) (g : Nat) (l : List Nat) : Prop := g < w.heap.size /\ ∀ i, i < l.length -> w.cell? ⟨g, i, none⟩ = some (.int .u64 (l.getD i 0 : Nat))
theorem UAt.below {w w' : World} {g : Nat} {l : List Nat} (h : UAt w g l) (hb : Below w.heap.size w w') : UAt w' g l := ⟨Nat.lt_of_lt_of_le h.1 hb.size, fun i hi => (hb.cell (p := ⟨g, i, none⟩) h.1).trans (h.2 i hi)⟩
theorem row_u {N n c : Nat} {w : World} {a : Option Addr} {l : List Nat} (h : w.ownsRow N 50 1 (.slice a n c) l.length (ucells l)) (hne : 0 < l.length) : ∃ g, a = some ⟨g, 0, none⟩ /\ UAt w g l /\ n = l.length /\ N <= g := by
 rcases h.2 with ⟨-, e⟩ | ⟨g, cap, cur, e, h2, h3, h4⟩
 ·omega
 ·cases e
  have hlt := h.lt g rfl
  refine ⟨g, rfl, ⟨hlt.2, fun i hi => ?_⟩, rfl, hlt.1⟩
  have := h.cellAt i (by omega)
  rwa [ucells_at l i hi] at this
section
variable {B s b : Nat} {O : Nat -> Prop} {vars room : Nat} {ns : List Nd}
theorem list_two (w : World) (hF : FamAt B w s b O vars room ns) (h : Int) (hh : hasB ns h = true) (x y : Nat) (hxy : x <= y) (hst : stL ns h 0 = [x, y]) (most : Int) (hm : 2 <= most) :
  Calls Try.prog 12 #[.pointer (some ⟨s, 0, none⟩), .int .i64 h, .int .i64 most] w fun e w' => ∃ g c, e = .returned (.tuple #[.slice (some ⟨g, 0, none⟩) 2 c, .nilIface]) /\ UAt w' g [x, y] /\ Below w.heap.size w w' := by
 have hn : nsN ns h = 2 := by rw [nsN_len ns h 0, hst]; rfl
 have HL := Lib.hid (listed_yes w hF h hh most (by omega))
 have hlen := hF.len
 have HST : Hid (∀ W, Below w.heap.size w W -> Calls Try.prog 36 #[.pointer (some ⟨s, 0, none⟩), .int .i64 h, .int .u64 0, .slice none 0 0] W (SetsOut w.heap.size [x, y] (.slice none 0 0) W)) := fun W hW => by
  have := sets_any (B := B) (N := w.heap.size) (s := s) (b := b) (O := O) (vars := vars) (room := (room : Int)) hF.good.ranked (by omega) (fun k hk => (hF.space.own k hk).2) hF.space.slt 24 W (hF.space.new hW) hW.size h hh (by have := (topOf_le hF.good.ranked h).1; omega) 0 (by decide) [] (by decide) none 0 (World.ownsRow_nil _ _ _ _)
  rw [hst] at this
  exact this
 unfold SetsOut at HST
 clear hF hh hst hn
 go_enter Try.func12, Try.ntmps12
 go_wp2_with fail
 refine HL.out.mono ?_
 rintro e w1 ⟨rfl, hb1⟩
 clear HL
 go_wp2_with fail
 refine (HST.out _ hb1).mono ?_
 rintro e w2 ⟨a2, c2, rfl, hrow, hk, -⟩
 obtain ⟨g, rfl, hU, -, -⟩ := row_u hrow (by simp)
 have hb2 : Below w.heap.size w w2 := hb1.trans (hk.below hb1.size (fun i hi => by simp [Value.ownBlock] at hi))
 have HS := Lib.hid (sort_two g c2 (x : Int) (y : Int) (by omega) w2 (hU.2 0 (by simp)) (hU.2 1 (by simp)))
 have HU := Lib.hid hU
 have HB2 := Lib.hid hb2
 clear hrow hk hU hb2 HST
 simp only [List.length_cons, List.length_nil, Nat.zero_add, Nat.reduceAdd]
 go_wp2_with fail
 refine HS.out.mono ?_
 rintro e w3 ⟨rfl, hb3⟩
 have HOUT : Hid (∃ g' c, Ending.returned (.tuple #[.slice (some ⟨g, 0, none⟩) 2 c2, .nilIface]) = .returned (.tuple #[.slice (some ⟨g', 0, none⟩) 2 c, .nilIface]) /\ UAt w3 g' [x, y] /\ Below w.heap.size w w3) := ⟨g, c2, rfl, HU.out.below hb3, HB2.out.trans (hb3.mono HB2.out.size)⟩
 clear hb3 HS HU HB2
 go_wp2
 go_ret2
 exact HOUT.out
theorem same_two (w : World) (g1 g2 c1 c2 : Nat) (x y : Nat) (h1 : UAt w g1 [x, y]) (h2 : UAt w g2 [x, y]) :
  Calls Try.prog 40 #[.slice (some ⟨g1, 0, none⟩) 2 c1, .slice (some ⟨g2, 0, none⟩) 2 c2] w fun e w' => e = .returned (.bool true) /\ Below w.heap.size w w' := by
 have H1 := Lib.hid h1
 have H2 := Lib.hid h2
 clear h1 h2
 go_enter Try.func40, Try.ntmps40
 go_wp2_with fail
 go_loopw [5] (fun i wr => ∃ k : Nat, k <= 2 /\ i = .int .i64 (k : Int) /\ Below w.heap.size w wr) (fun i _ => 2 - (intOf i).toNat)
 case atStart => exact ⟨0, by omega, rfl, Below.refl _ _⟩
 case round =>
  obtain ⟨k, hk, rfl, hb⟩ := hrel
  by_cases hlt : k < 2
  ·have a0 := (H1.out.below hb).2 k hlt
   have b0 := (H2.out.below hb).2 k hlt
   have i1 : (k : Int) < 2 := by omega
   generalize ([x, y] : List Nat).getD k 0 = z at *
   have HB := Lib.hid hb
   clear hb
   go_wp2_with fail
   go_quiet (fail)
   go_wp2
   go_roundw
   case rel => exact ⟨k + 1, by omega, by go_num, below_drewN HB.out _⟩
   case measure => simp [intOf]; omega
  ·obtain rfl : k = 2 := by omega
   go_wp2
   go_ret
   exact ⟨rfl, hb⟩
end
end Go.Proofs.Ytbklgjmkdhinpaa.Fm
