/- pick. -/
import Derived.Test.YtbklgjmkdhinpaaFmCount
import Derived.Test.YtbklgjmkdhinpaaFmSetsW
import Derived.Test.YtbklgjmkdhinpaaFmFun
set_option maxHeartbeats 2000000
set_option maxRecDepth 100000
namespace Go.Proofs.Ytbklgjmkdhinpaa.Fm
open Go.RowKit Go.Maps Go.Proofs.Ytbklgjmkdhinpaa.Bd
theorem nan_no (x : Int) (w : World) : Calls Try.prog 108 #[.int .u64 x] w fun e w' => e = .returned (.bool false) /\ w = w' := by
 go_enter Try.func108, Try.ntmps108
 go_wp2
 go_ret
 exact ⟨by simp, rfl⟩
theorem lessU_any (x y : Int) (w : World) : Calls Try.prog 94 #[.int .u64 x, .int .u64 y] w fun e w' => e = .returned (.bool (decide (x < y))) /\ w = w' := by
 go_enter Try.func94, Try.ntmps94
 go_wp2_with fail
 refine (nan_no x w).mono ?_
 rintro e w1 ⟨rfl, rfl⟩
 go_wp2
 go_ret
 exact ⟨rfl, rfl⟩
theorem len64_two (w : World) : Calls Try.prog 98 #[.int .u64 2] w fun e w' => e = .returned (.int .i64 2) /\ Below w.heap.size w w' := by
 go_enter Try.func98, Try.ntmps98
 go_wp2
 go_ret
 exact ⟨congrArg (fun z => Ending.returned (Value.int .i64 z)) (show wrap64 (wrap64 (Lib.len8 2)) = 2 by decide +kernel), Below.refl _ _⟩
theorem len_two (w : World) : Calls Try.prog 63 #[.int .u64 2] w fun e w' => e = .returned (.int .i64 2) /\ Below w.heap.size w w' := by
 go_enter Try.func63, Try.ntmps63
 go_wp2_with fail
 refine (len64_two w).mono ?_
 rintro e w' ⟨rfl, hb⟩
 go_wp2
 go_ret
 exact ⟨rfl, hb⟩
theorem ins_two (g cap : Nat) (x y : Int) (hxy : x <= y) (w : World) (c0 : w.cell? ⟨g, 0, none⟩ = some (.int .u64 x)) (c1 : w.cell? ⟨g, 1, none⟩ = some (.int .u64 y)) :
  Calls Try.prog 88 #[.slice (some ⟨g, 0, none⟩) 2 cap, .int .i64 0, .int .i64 2] w fun e w' => e = .returned (.tuple #[]) /\ Below w.heap.size w w' := by
 have gl := (cells_at (a := ⟨g, 0, none⟩) c0).lt
 have HL : Hid (∀ W, Calls Try.prog 94 #[.int .u64 y, .int .u64 x] W fun e w' => e = .returned (.bool false) /\ W = w') := fun W => by
  have := lessU_any y x W
  rwa [show decide (y < x) = false by simp; omega] at this
 go_enter Try.func88, Try.ntmps88
 go_wp2_with fail
 refine wp_loop_rounds 2 ?_
 rw [rounds_succ]
 go_wp2_with fail
 refine wp_loop_rounds 1 ?_
 rw [rounds_succ]
 go_wp2_with fail
 have S0 : w.drew.cell? ⟨g, 0, none⟩ = some (.int .u64 x) /\ w.drew.cell? ⟨g, 1, none⟩ = some (.int .u64 y) := ⟨c0, c1⟩
 have hw1 : IntKind.i64.wrap (0 : Int) = 0 := by decide
 go_region_held3 (fun W => W.cell? ⟨g, 0, none⟩ = some (.int .u64 x) /\ W.cell? ⟨g, 1, none⟩ = some (.int .u64 y)) (exact S0)
  (first | (go_at_call 94; with_reducible refine (HL.out _).mono ?_; rintro e wz ⟨rfl, rfl⟩))
 go_wp2_with fail
 rw [rounds_succ]
 go_wp2
 refine bodyPost_end (v := .tuple #[]) (by simp [results, Try.results88, go_sem]) rfl ?_
 exact ⟨rfl, (Below.refl _ _).drew⟩
theorem pdq_two (g cap : Nat) (x y : Int) (hxy : x <= y) (w : World) (c0 : w.cell? ⟨g, 0, none⟩ = some (.int .u64 x)) (c1 : w.cell? ⟨g, 1, none⟩ = some (.int .u64 y)) :
  Calls Try.prog 62 #[.slice (some ⟨g, 0, none⟩) 2 cap, .int .i64 0, .int .i64 2, .int .i64 2] w fun e w' => e = .returned (.tuple #[]) /\ Below w.heap.size w w' := by
 have HI := Lib.hid (ins_two g cap x y hxy w c0 c1)
 go_enter Try.func62, Try.ntmps62
 go_wp2_with fail
 refine wp_loop_rounds 1 ?_
 rw [rounds_succ]
 go_wp2_with fail
 refine HI.out.mono ?_
 rintro e w' ⟨rfl, hb⟩
 go_wp2
 refine bodyPost_ret (v := .tuple #[]) (by simp [results, Try.results62, go_sem]) rfl ?_
 exact ⟨rfl, hb⟩
theorem sort_two (g cap : Nat) (x y : Int) (hxy : x <= y) (w : World) (c0 : w.cell? ⟨g, 0, none⟩ = some (.int .u64 x)) (c1 : w.cell? ⟨g, 1, none⟩ = some (.int .u64 y)) :
  Calls Try.prog 37 #[.slice (some ⟨g, 0, none⟩) 2 cap] w fun e w' => e = .returned (.tuple #[]) /\ Below w.heap.size w w' := by
 have gl := (cells_at (a := ⟨g, 0, none⟩) c0).lt
 go_enter Try.func37, Try.ntmps37
 go_wp2_with fail
 refine (len_two w).mono ?_
 rintro e w1 ⟨rfl, hb1⟩
 go_wp2_with fail
 refine (pdq_two g cap x y hxy w1 ((hb1.cell (p := ⟨g, 0, none⟩) gl).trans c0) ((hb1.cell (p := ⟨g, 1, none⟩) gl).trans c1)).mono ?_
 rintro e w2 ⟨rfl, hb2⟩
 have hb3 := hb1.trans (hb2.mono hb1.size)
 go_wp2
 refine bodyPost_end (v := .tuple #[]) (by simp [results, Try.results37, go_sem]) rfl ?_
 exact ⟨rfl, hb3⟩
end Go.Proofs.Ytbklgjmkdhinpaa.Fm
namespace Go.Proofs.Ytbklgjmkdhinpaa.Fm
open Go.RowKit Go.Maps Go.Proofs.Ytbklgjmkdhinpaa.Bd
theorem nsF_len (ns : List Nd) : ∀ (d : Nat) (h : Int) (x : Nat), nsF d ns h = (stF d ns h x).length
 | 0, h, x => by unfold nsF stF; split <;> rfl
 | d + 1, h, x => by
  unfold nsF stF
  split
  ·split <;> rfl
  ·rw [List.length_append, nsF_len ns d _ x, nsF_len ns d _ (x ||| 2 ^ (topOf ns h).toNat)]
theorem nsN_len (ns : List Nd) (h : Int) (x : Nat) : nsN ns h = (stL ns h x).length := nsF_len ns 24 h x
def UAt (w : World) (g : Nat) (l : List Nat) : Prop := g < w.heap.size /\ ∀ i, i < l.length -> w.cell? ⟨g, i, none⟩ = some (.int .u64 (l.getD i 0 : Nat))
theorem UAt.below {w w' : World} {g : Nat} {l : List Nat} (h : UAt w g l) (hb : Below w.heap.size w w') : UAt w' g l := ⟨Nat.lt_of_lt_of_le h.1 hb.size, fun i hi => (hb.cell (p := ⟨g, i, none⟩) h.1).trans (h.2 i hi)⟩
theorem row_u {N n c : Nat} {w : World} {a : Option Addr} {l : List Nat} (h : w.ownsRow N 50 1 (.slice a n c) l.length (ucells l)) (hne : 0 < l.length) : ∃ g, a = some ⟨g, 0, none⟩ /\ UAt w g l /\ n = l.length /\ N <= g := by
 rcases h.2 with ⟨-, e⟩ | ⟨g, cap, cur, e, h2, h3, h4⟩
 ·omega
 ·cases e
  have hlt := h.lt g rfl
  refine ⟨g, rfl, ⟨hlt.2, fun i hi => ?_⟩, rfl, hlt.1⟩
  have := h.cellAt i (by omega)
  rwa [ucells_at l i hi] at this
section
variable {B s b : Nat} {O : Nat -> Prop} {vars room : Nat} {ns : List Nd}
theorem list_two (w : World) (hF : FamAt B w s b O vars room ns) (h : Int) (hh : hasB ns h = true) (x y : Nat) (hxy : x <= y) (hst : stL ns h 0 = [x, y]) (most : Int) (hm : 2 <= most) :
  Calls Try.prog 12 #[.pointer (some ⟨s, 0, none⟩), .int .i64 h, .int .i64 most] w fun e w' => ∃ g c, e = .returned (.tuple #[.slice (some ⟨g, 0, none⟩) 2 c, .nilIface]) /\ UAt w' g [x, y] /\ Below w.heap.size w w' := by
 have hn : nsN ns h = 2 := by rw [nsN_len ns h 0, hst]; rfl
 have HL := Lib.hid (listed_yes w hF h hh most (by omega))
 have hlen := hF.len
 have HST : Hid (∀ W, Below w.heap.size w W -> Calls Try.prog 36 #[.pointer (some ⟨s, 0, none⟩), .int .i64 h, .int .u64 0, .slice none 0 0] W (SetsOut w.heap.size [x, y] (.slice none 0 0) W)) := fun W hW => by
  have := sets_any (B := B) (N := w.heap.size) (s := s) (b := b) (O := O) (vars := vars) (room := (room : Int)) hF.good.ranked (by omega) (fun k hk => (hF.space.own k hk).2) hF.space.slt 24 W (hF.space.new hW) hW.size h hh (by have := (topOf_le hF.good.ranked h).1; omega) 0 (by decide) [] (by decide) none 0 (World.ownsRow_nil _ _ _ _)
  rw [hst] at this
  exact this
 unfold SetsOut at HST
 clear hF hh hst hn
 go_enter Try.func12, Try.ntmps12
 go_wp2_with fail
 refine HL.out.mono ?_
 rintro e w1 ⟨rfl, hb1⟩
 clear HL
 go_wp2_with fail
 refine (HST.out _ hb1).mono ?_
 rintro e w2 ⟨a2, c2, rfl, hrow, hk, -⟩
 obtain ⟨g, rfl, hU, -, -⟩ := row_u hrow (by simp)
 have hb2 : Below w.heap.size w w2 := hb1.trans (hk.below hb1.size (fun i hi => by simp [Value.ownBlock] at hi))
 have HS := Lib.hid (sort_two g c2 (x : Int) (y : Int) (by omega) w2 (hU.2 0 (by simp)) (hU.2 1 (by simp)))
 have HU := Lib.hid hU
 have HB2 := Lib.hid hb2
 clear hrow hk hU hb2 HST
 simp only [List.length_cons, List.length_nil, Nat.zero_add, Nat.reduceAdd]
 go_wp2_with fail
 refine HS.out.mono ?_
 rintro e w3 ⟨rfl, hb3⟩
 have HOUT : Hid (∃ g' c, Ending.returned (.tuple #[.slice (some ⟨g, 0, none⟩) 2 c2, .nilIface]) = .returned (.tuple #[.slice (some ⟨g', 0, none⟩) 2 c, .nilIface]) /\ UAt w3 g' [x, y] /\ Below w.heap.size w w3) := ⟨g, c2, rfl, HU.out.below hb3, HB2.out.trans (hb3.mono HB2.out.size)⟩
 clear hb3 HS HU HB2
 go_wp2
 go_ret2
 exact HOUT.out
theorem same_two (w : World) (g1 g2 c1 c2 : Nat) (x y : Nat) (h1 : UAt w g1 [x, y]) (h2 : UAt w g2 [x, y]) :
  Calls Try.prog 40 #[.slice (some ⟨g1, 0, none⟩) 2 c1, .slice (some ⟨g2, 0, none⟩) 2 c2] w fun e w' => e = .returned (.bool true) /\ Below w.heap.size w w' := by
 have H1 := Lib.hid h1
 have H2 := Lib.hid h2
 clear h1 h2
 go_enter Try.func40, Try.ntmps40
 go_wp2_with fail
 go_loopw [5] (fun i wr => ∃ k : Nat, k <= 2 /\ i = .int .i64 (k : Int) /\ Below w.heap.size w wr) (fun i _ => 2 - (intOf i).toNat)
 case atStart => exact ⟨0, by omega, rfl, Below.refl _ _⟩
 case round =>
  obtain ⟨k, hk, rfl, hb⟩ := hrel
  by_cases hlt : k < 2
  ·have a0 := (H1.out.below hb).2 k hlt
   have b0 := (H2.out.below hb).2 k hlt
   have i1 : (k : Int) < 2 := by omega
   generalize ([x, y] : List Nat).getD k 0 = z at *
   have HB := Lib.hid hb
   clear hb
   go_wp2_with fail
   go_quiet (fail)
   go_wp2
   go_roundw
   case rel => exact ⟨k + 1, by omega, by go_num, below_drewN HB.out _⟩
   case measure => simp [intOf]; omega
  ·obtain rfl : k = 2 := by omega
   go_wp2
   go_ret
   exact ⟨rfl, hb⟩
end
end Go.Proofs.Ytbklgjmkdhinpaa.Fm
namespace Go.Proofs.Ytbklgjmkdhinpaa.Bd
open Go.RowKit Go.Maps
theorem pick_any (x : Int) (n : Nat) (h0 : 0 < n) (h1 : n <= 1000000) (w : World) :
  Calls Try.prog 16 #[.int .i64 x, .int .i64 (n : Int)] w fun e w' => e = .returned (.int .i64 (pickV x n : Int)) /\ w = w' := by
 have hp := pickV_lt x h0
 have e1 : IntKind.u64.wrap x = x % 18446744073709551616 := by rw [IntKind.wrap_u64]
 have e2 : IntKind.u64.wrap (n : Int) = (n : Int) := IntWalk.u64_in _ ⟨by omega, by omega⟩
 have e3 : Int.tmod (x % 18446744073709551616) (n : Int) = (pickV x n : Int) := by
  unfold pickV
  obtain ⟨m, hm⟩ : ∃ m : Nat, x % 18446744073709551616 = (m : Int) := ⟨(x % 18446744073709551616).toNat, by omega⟩
  rw [hm]; simp
  rfl
 have e4 : IntKind.i64.wrap (pickV x n : Int) = (pickV x n : Int) := IntWalk.i64_in _ ⟨by omega, by omega⟩
 have e5 : ((n : Int) == 0) = false := by rw [beq_eq_false_iff_ne]; omega
 generalize pickV x n = p at *
 go_enter Try.func16, Try.ntmps16
 go_wp2
 go_ret
 exact ⟨rfl, rfl⟩
end Go.Proofs.Ytbklgjmkdhinpaa.Bd
