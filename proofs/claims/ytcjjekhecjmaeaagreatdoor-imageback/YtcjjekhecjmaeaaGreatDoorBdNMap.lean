/- Maps from handles to numbers of any size. -/
import Derived.Test.YtcjjekhecjmaeaaGreatDoorBdFunW
import Derived.Test.YtcjjekhecjmaeaaGreatDoorBdHolds
import Derived.Test.YtcjjekhecjmaeaaGreatDoorBdFree
import Derived.Test.YtcjjekhecjmaeaaGreatDoorArReachM
import Derived.Test.YtcjjekhecjmaeaaGreatDoorBdDone
import Derived.Test.YtcjjekhecjmaeaaGreatDoorCnBase
set_option maxHeartbeats 4000000
set_option maxRecDepth 100000
namespace Go.Proofs.YtcjjekhecjmaeaaGreatDoor
section
open Go.RowKit Go.Maps
def Is (ns : List Nd) (h : Int) (g : Fn') : Prop := hasB ns h = true /\ ∀ f, sem ns h f = g f
def OpIs (B s b : Nat) (O : Nat -> Prop) (vars : Nat) (room : Int) (ns : List Nd) (g : Fn') (w : World) (e : Ending) (w' : World) : Prop :=
 ∃ (h : Int) (ns' : List Nd) (O' : Nat -> Prop), e = .returned (.tuple #[.int .i64 h, .nilIface]) /\ SpaceAt B w' s b O' vars room ns' /\ Moves O O' w w' /\ Good vars ns' /\ Ext ns ns' /\ Is ns' h g /\ ns'.length + 1 <= ns.length + 2 ^ vars
section
variable {B s b : Nat} {O : Nat -> Prop} {vars : Nat} {room : Int} {ns : List Nd} {w w' : World}
theorem Is.ext {ns' : List Nd} {h : Int} {g : Fn'} (i : Is ns h g) (hr : Ranked ns) (he : Ext ns ns') : Is ns' h g := ⟨he.has h i.1, fun f => by rw [sem_ext hr he i.1]; exact i.2 f⟩
theorem Is.same {h k : Int} {g g' : Fn'} (hg : Good vars ns) (i : Is ns h g) (j : Is ns k g') (e : ∀ f, g f = g' f) : h = k := same_handle hg i.1 j.1 (fun f => by rw [i.2 f, j.2 f, e f])
theorem op_is {F : FuncId} {args : Array Value} {r : List Nd × Int} {g g' : Fn'} (h : Calls Tryz.prog F args w (OpOut B s b O vars room r w)) (hr : OpR vars ns r g) (e : ∀ f, g f = g' f) : Calls Tryz.prog F args w (OpIs B s b O vars room ns g' w) :=
 h.mono fun _ _ ⟨he, O', hS, hM⟩ => ⟨r.2, r.1, O', he, hS, hM, hr.good, hr.ext, ⟨hr.has, fun f => by rw [hr.sem f, e f]⟩, hr.len⟩
theorem room_len (hR : Room B w vars room ns) : ns.length + 2 ^ vars <= 900000 := by have := hR.l; have := hR.r; omega
variable (h : SpaceAt B w s b O vars room ns) (hg : Good vars ns) (hR : Room B w vars room ns)
include h hg hR
theorem lit_is {v : Int} (is : Bool) (hv0 : 0 <= v) (hv : v < (vars : Int)) : Calls Tryz.prog 58 #[.pointer (some ⟨s, 0, none⟩), .int .i64 v, .bool is] w (OpIs B s b O vars room ns (fun f => f v.toNat == is) w) :=
 op_is (lit_op h hR v is hv0 hv) (lit_ok hg is hv0 hv (by have := hR.v; omega) (room_len hR)) (fun _ => rfl)
end
end
section
open Go.RowKit Go.Maps
theorem truth_any (w : World) : Calls Tryz.prog 26 #[] w fun e w' => e = .returned (.bool true) /\ Below w.heap.size w w' := by
 have HN := bnew_any 2 (by omega) 50 (by omega) (by omega) w w.heap.size (Nat.le_refl _)
 have HN' : Hid (Calls Tryz.prog 31 #[.int .i64 2, .int .i64 50] w fun e w' => ∃ s b O, e = .returned (.tuple #[.pointer (some ⟨s, 0, none⟩), .nilIface]) /\ SpaceAt w.heap.size w' s b O 2 50 [] /\ w.heap.size <= s /\ (∀ k, O k -> w.heap.size <= k) /\ Below w.heap.size w w') := HN
 clear HN
 go_enter Tryz.func26, Tryz.ntmps26
 go_wp2_with fail
 refine HN'.out.mono ?_
 rintro e w1 ⟨s, b, O, rfl, hS, hs, hO, hb1⟩
 have hR : Room w.heap.size w1 2 50 [] := ⟨by omega, by simp, by omega, hb1.size⟩
 have HL := Lib.hid (lit_is hS (good_nil 2) hR (v := 1) true (by omega) (by simp))
 have HO := Lib.hid hO
 have HB1 := Lib.hid hb1
 clear HN' hS hR hO
 go_wp2_with fail
 refine HL.out.mono ?_
 rintro e w2 ⟨x, ns, O2, rfl, hS2, hM2, hG2, -, hI2, hl2⟩
 have hl : ns.length <= 90000 := by simp at hl2; omega
 have e2 : sem ns x (bitsF 2) = true := by rw [hI2.2]; decide
 have e1 : sem ns x (bitsF 1) = false := by rw [hI2.2]; decide
 have hb2 : Below w.heap.size w w2 := HB1.out.trans (hM2.below HB1.out.size HO.out)
 have H2 := holds_any hS2 hG2 hl x hI2.1 2 (by omega)
 rw [e2] at H2
 have H2' : Hid (Calls Tryz.prog 28 #[.pointer (some ⟨s, 0, none⟩), .int .i64 x, .int .u64 2] w2 fun e w' => e = .returned (.tuple #[.bool true, .nilIface]) /\ Below w2.heap.size w2 w') := H2
 have H1' : Hid (∀ W, Below w2.heap.size w2 W -> Calls Tryz.prog 28 #[.pointer (some ⟨s, 0, none⟩), .int .i64 x, .int .u64 1] W fun e w' => e = .returned (.tuple #[.bool false, .nilIface]) /\ Below W.heap.size W w') := fun W hW => by
  have H1 := holds_any (hS2.new hW) hG2 hl x hI2.1 1 (by omega)
  rw [e1] at H1
  exact H1
 have HB2 := Lib.hid hb2
 clear HL hS2 hM2 hG2 hI2 e2 e1 H2 hb2
 go_wp2_with fail
 refine H2'.out.mono ?_
 rintro e w3 ⟨rfl, hb3⟩
 have H1 := Lib.hid (H1'.out w3 hb3)
 have HB3 := Lib.hid (HB2.out.trans (hb3.mono HB2.out.size))
 clear H2' H1' hb3
 go_wp2_with fail
 refine H1.out.mono ?_
 rintro e w4 ⟨rfl, hb4⟩
 have HB4 := Lib.hid (HB3.out.trans (hb4.mono HB3.out.size))
 clear H1 hb4
 go_wp2
 go_ret
 exact ⟨rfl, HB4.out⟩
theorem space_no (vars : Int) (a : Option Addr) (n c : Nat) (h : vars < 1 \/ 6 < vars \/ 25 < n) (hn : n <= 9223372036854775807) (w : World) :
  Calls Tryz.prog 25 #[.int .i64 vars, .slice a n c] w fun e w' => e = .returned (.tuple #[.pointer none, .slice none 0 0, .bool false]) /\ w = w' := by
 by_cases c1 : vars < 1
 ·clear h
  go_enter Tryz.func25, Tryz.ntmps25
  go_wp2
  refine bodyPost_ret (v := .tuple #[.pointer none, .slice none 0 0, .bool false]) (by simp [results, Tryz.results25, go_sem]) rfl ⟨rfl, rfl⟩
 by_cases c2 : 6 < vars
 ·clear h
  go_enter Tryz.func25, Tryz.ntmps25
  go_wp2
  refine bodyPost_ret (v := .tuple #[.pointer none, .slice none 0 0, .bool false]) (by simp [results, Tryz.results25, go_sem]) rfl ⟨rfl, rfl⟩
 ·have c3 : (25 : Int) < (n : Int) := by omega
  have d1 : decide (vars < 1) = false := by simpa using c1
  have d2 : decide (6 < vars) = false := by simpa using c2
  clear h
  go_enter Tryz.func25, Tryz.ntmps25
  go_wp2
  refine bodyPost_ret (v := .tuple #[.pointer none, .slice none 0 0, .bool false]) (by simp [results, Tryz.results25, go_sem]) rfl ⟨rfl, rfl⟩
def SpaceOut (vars : Nat) (xs : List Quad) (w : World) (e : Ending) (w' : World) : Prop :=
 ∃ s b O a c, e = .returned (.tuple #[.pointer (some ⟨s, 0, none⟩), .slice a (funF vars ([], [0, 1]) xs).2.length c, .bool true]) /\ SpaceAt w.heap.size w' s b O vars 4000 (funF vars ([], [0, 1]) xs).1 /\
  w'.ownsRow w.heap.size 3 1 (.slice a (funF vars ([], [0, 1]) xs).2.length c) (funF vars ([], [0, 1]) xs).2.length (icells (funF vars ([], [0, 1]) xs).2) /\ (∀ k, (Value.slice a (funF vars ([], [0, 1]) xs).2.length c).ownBlock = some k -> ¬ O k /\ k ≠ s /\ w.heap.size <= k) /\ (∀ k, O k -> w.heap.size <= k) /\ Below w.heap.size w w'
theorem space_yes (vars : Nat) (hv0 : 0 < vars) (hv6 : vars <= 6) (xs : List Quad) (v : Value) (w : World) (hx : ArgQuads w v xs) (hxl : xs.length <= 25) :
  Calls Tryz.prog 25 #[.int .i64 (vars : Int), v] w (SpaceOut vars xs w) := by
 obtain ⟨a, cap, rfl, hx⟩ := hx
 have HN := Lib.hid (bnew_any vars (by omega) 4000 (by omega) (by omega) w w.heap.size (Nat.le_refl _))
 have HX := Lib.hid hx
 have i1 : (xs.length : Int) <= 25 := by omega
 have i2 : (1 : Int) <= (vars : Int) := by omega
 have i3 : (vars : Int) <= 6 := by omega
 clear hx
 go_enter Tryz.func25, Tryz.ntmps25
 go_wp2_with fail
 refine HN.out.mono ?_
 rintro e w1 ⟨s, b, O, rfl, hS, hs, hO, hb1⟩
 have HF := Lib.hid (functions_any hS (good_nil vars) hv0 hv6 rfl xs a cap (fun i hi => by
  obtain ⟨ad, h1, h2⟩ := HX.out i hi
  exact ⟨ad, h1, h2.below hb1 h2.lt, fun ho => by have := hO _ ho; have := h2.lt; omega⟩) hxl (by simp; omega) hb1.size)
 have HO := Lib.hid hO
 have HB1 := Lib.hid hb1
 clear HN hS hO hb1
 go_wp2_with fail
 refine HF.out.mono ?_
 rintro e w2 ⟨a2, c2, O2, rfl, hF⟩
 have hfin : SpaceOut vars xs w (.returned (.tuple #[.pointer (some ⟨s, 0, none⟩), .slice a2 (funF vars ([], [0, 1]) xs).2.length c2, .bool true])) w2 :=
  ⟨s, b, O2, a2, c2, rfl, hF.space, hF.row, fun k hk => ⟨(hF.apart k hk).1, (hF.apart k hk).2.1, by have := (hF.apart k hk).2.2; have := HB1.out.size; omega⟩, fun k hk => by
   rcases hF.moves.own k hk with h | h
   ·exact HO.out k h
   ·have := HB1.out.size; omega, HB1.out.trans (hF.moves.below HB1.out.size HO.out)⟩
 have HFIN := Lib.hid hfin
 clear HF hF hfin
 generalize funF vars ([], [0, 1]) xs = r at *
 go_wp2
 refine bodyPost_ret (v := .tuple #[.pointer (some ⟨s, 0, none⟩), .slice a2 r.2.length c2, .bool true]) (by simp [results, Tryz.results25, go_sem]) rfl HFIN.out
end
section
open Go.RowKit Go.Maps
section
variable {B b bm : Nat} {v : Value} {ns : List Nd} {L : List (Nd × Int)} {room next : Int} {w : World}
theorem reach_any (hr : Ranked ns) (hl : ns.length <= 100000) (hA : ArenaAt B w b bm v ns L room next) (bf : Nat) {cp : Nat} (fs : List Int) (hF : IntsAt w bf fs) (hfl : fs.length <= 1000) (hB : B <= w.heap.size) :
  Calls Tryz.prog 36 #[.pointer (some ⟨b, 0, none⟩), .slice (some ⟨bf, 0, none⟩) fs.length cp] w fun e w' => ∃ a c, e = .returned (.slice a (reachTo (marksOf ns fs) ns.length).length c) /\ w'.ownsRow w.heap.size 3 1 (.slice a (reachTo (marksOf ns fs) ns.length).length c) (reachTo (marksOf ns fs) ns.length).length (icells (reachTo (marksOf ns fs) ns.length)) /\ Below w.heap.size w w' := by
 have HC := Lib.hid (reached_any (cp := cp) hr hl hA bf fs hF hfl hB)
 have hML := marksOf_length ns fs
 generalize marksOf ns fs = M at *
 have HML := Lib.hid hML
 obtain ⟨i0, hi, hz0, hz1, hz2⟩ := info_parts infoInt
 clear hA hF hr hML
 go_enter Tryz.func36, Tryz.ntmps36
 go_wp2_with fail
 refine HC.out.mono ?_
 rintro e w1 ⟨rfl, hm1, hb1⟩
 have hs1 : w.heap.size < w1.heap.size := (hm1.lt w.heap.size rfl).2
 clear HC
 go_wp2_with fail
 go_loopw [5, 6, 7, 12] (fun out _ _ i wr => ∃ (k : Nat) (a : Option Addr) (c : Nat), k <= ns.length /\ i = .int .i64 (k : Int) /\ out = .slice a (reachTo M k).length c /\ wr.ownsRow (w.heap.size + 1) 3 1 (.slice a (reachTo M k).length c) (reachTo M k).length (icells (reachTo M k)) /\ wr.ownsRow B 4 1 (.slice (some ⟨w.heap.size, 0, none⟩) ns.length ns.length) ns.length (mcells M) /\ Below w.heap.size w wr /\ w.heap.size < wr.heap.size)
  (fun _ _ _ i _ => ns.length - (intOf i).toNat)
 case atStart => exact ⟨0, none, 0, Nat.zero_le _, rfl, rfl, World.ownsRow_nil _ _ _ _, hm1, hb1, hs1⟩
 case round =>
  obtain ⟨k, a, c, hk, rfl, rfl, hown, hmr, hbelr, hsr⟩ := hrel
  clear hm1 hb1 hs1
  by_cases hlt : k < ns.length
  ·have cm := hmr.cellAt k (by omega)
   rw [mcells_at M k (by rw [HML.out]; exact hlt)] at cm
   have hrl := reachTo_length M k
   have hsu := reachTo_succ M k
   by_cases hm : mk M k = true
   ·rw [if_pos hm] at hsu
    rw [hm] at cm
    have HSU := Lib.hid hsu
    have HB := Lib.hid hbelr
    have HM := Lib.hid hmr
    clear hm hsu hbelr hmr
    have ib : (k : Int) < (ns.length : Int) := by omega
    go_wp2_with (at_builtin; refine wpList_append_own _ rfl _ _ 24 rfl (w.heap.size + 1) 3 i0 (.int .i64 0) 1 8 Tryz.underlying24 hi hz0 hz1 hz2 rfl (by decide) _ _ _ rfl (hown.alloc _) ⟨wr.heap.size, 0, none⟩ 1 1 [.int .i64 (2 + (k : Int))] rfl rfl ?c1 ?c2 ?c3 ?c4 ?c5 ?_)
    case c1 => exact cell_one_new _ _ _
    case c2 => intro u hu; simp at hu; subst hu; rfl
    case c3 => unfold maxLen; omega
    case c4 => omega
    case c5 => simp; omega
    ·intro v' w4 hown' hgrow _
     have hk4 : Kept (fun j => (Value.slice a (reachTo M k).length c).ownBlock = some j) wr w4 := (Kept.alloc _ wr _).andThen (Kept.of_grown hgrow (fun i h => h)) (fun i h _ => h)
     have hb4 := HB.out.trans (hk4.below HB.out.size (fun i hi => by have := (hown.lt i hi).1; omega))
     have hm4 := ownsRow_kept HM.out hk4 (fun j hj h2 => by have := (hown.lt j h2).1; have hj2 : w.heap.size = j := Option.some.inj hj; omega)
     have hs4 := Nat.lt_of_lt_of_le hsr hk4.size
     obtain ⟨a', c', rfl⟩ : ∃ a' c', v' = .slice a' ((reachTo M k).length + 1) c' := by
      rcases hown'.2 with ⟨h1, h2⟩ | ⟨g, cp, cur, h1, -⟩
      ·omega
      ·exact ⟨_, _, h1⟩
     clear hown hgrow hk4 HM HB
     go_wp2
     go_roundw
     case rel =>
      have e5 := HSU.out
      have e6 : (reachTo M (k + 1)).length = (reachTo M k).length + 1 := by rw [e5]; simp
      refine ⟨k + 1, a', c', by omega, by go_num, by rw [e6], ?_, hm4, hb4, hs4⟩
      rw [e6, e5]
      simpa [icells] using hown'
     case measure => simp [intOf]; omega
   ·rw [if_neg hm, List.append_nil] at hsu
    have hm' : mk M k = false := by simpa using hm
    rw [hm'] at cm
    have HSU := Lib.hid hsu
    have HO := Lib.hid hown
    have HB := Lib.hid hbelr
    have HM := Lib.hid hmr
    clear hm hm' hsu hown hbelr hmr
    have ib : (k : Int) < (ns.length : Int) := by omega
    go_wp2
    go_roundw
    case rel => exact ⟨k + 1, a, c, by omega, by go_num, by rw [HSU.out], by rw [HSU.out]; exact HO.out, HM.out, HB.out, hsr⟩
    case measure => simp [intOf]; omega
  ·obtain rfl : k = ns.length := by omega
   go_wp2
   go_ret
   exact ⟨a, c, rfl, ownsRow_base hown (by omega), hbelr⟩
end
end
section
open Go.RowKit Go.Maps
theorem reach_taken {ns : List Nd} (hr : Ranked ns) (fs : List Int) : (reachTo (marksOf ns fs) ns.length).length = (taken (swept ns (marksOf ns fs))).length := by
 have h1 := marksOf_real hr fs
 unfold reachTo taken
 rw [List.length_map, swept_length]
 congr 1
 refine List.filter_congr fun i hi => ?_
 have hi' := List.mem_range.1 hi
 rw [swept_at ns _ i hi']
 by_cases c : mk (marksOf ns fs) i = true
 ·rw [if_pos c, c]; simp [h1 i c]
 ·rw [if_neg c]; simp [c]
section
variable {B s b : Nat} {O : Nat -> Prop} {vars : Nat} {room : Int} {ns : List Nd} {w w' : World}
theorem spLen (h : SpaceAt B w s b O vars room ns) : Calls Tryz.prog 24 #[.pointer (some ⟨b, 0, none⟩)] w fun e w' => e = .returned (.int .i64 ((taken ns).length : Int)) /\ w = w' := by
 obtain ⟨bm, v, L, next, hA, hBk, -, hO⟩ := h.arena
 rw [<- book_len hBk]; exact len_any hA
theorem spReach (h : SpaceAt B w s b O vars room ns) (hr : Ranked ns) (hl : ns.length <= 90000) (hB : B <= w.heap.size) (bf : Nat) {cp : Nat} (fs : List Int) (hF : IntsAt w bf fs) (hfl : fs.length <= 1000) :
  Calls Tryz.prog 36 #[.pointer (some ⟨b, 0, none⟩), .slice (some ⟨bf, 0, none⟩) fs.length cp] w fun e w' => ∃ a c, e = .returned (.slice a (taken (swept ns (marksOf ns fs))).length c) /\ Below w.heap.size w w' := by
 obtain ⟨bm, v, L, next, hA, hBk, -, hO⟩ := h.arena
 refine (reach_any (cp := cp) hr (by omega) hA bf fs hF hfl hB).mono ?_
 rintro e w' ⟨a, c, rfl, -, hb⟩
 exact ⟨a, c, by rw [reach_taken hr], hb⟩
theorem size_op (h : SpaceAt B w s b O vars room ns) (hr : Ranked ns) (hl : ns.length <= 90000) (hB : B <= w.heap.size) (x : Int) (hx : hasB ns x = true) :
  Calls Tryz.prog 11 #[.pointer (some ⟨s, 0, none⟩), .int .i64 x] w fun e w' => e = .returned (.tuple #[.int .i64 ((taken (swept ns (marksOf ns [x]))).length : Int), .nilIface]) /\ Below w.heap.size w w' := by
 have hi := has_i64 hx (by omega)
 have hb := below_new w (.cells #[.int .i64 x] 3)
 have h1 := h.new hb
 have HP := present_any (cp := 1) h1 (by omega) w.heap.size [x] (ints1 w x hi) (by simp) (fun y hy => by rw [List.mem_singleton] at hy; subst hy; exact hx)
 have hb2 := hb.alloc hb.size (.cells #[.int .i64 x] 3)
 have HR := spReach (cp := 1) (h.new hb2) hr hl (by have := hb2.size; omega) (w.alloc (.cells #[.int .i64 x] 3)).heap.size [x] (ints1 _ x hi) (by simp)
 have c0 := h1.c0
 rw [show [x].length = 1 from rfl] at HP HR
 have ez : (w.alloc (.cells #[.int .i64 x] 3)).heap.size = w.heap.size + 1 := by simp
 rw [ez] at HR
 have HPR := Lib.hid HP
 have HRR := Lib.hid HR
 have HB2 := Lib.hid hb2
 generalize (taken (swept ns (marksOf ns [x]))).length = m at *
 clear HP HR h h1 hr hx hb hb2 ez
 go_enter Tryz.func11, Tryz.ntmps11
 go_wp2_with fail
 refine HPR.out.mono ?_
 rintro e w1 ⟨rfl, rfl⟩
 clear HPR
 go_wp2_with fail
 refine HRR.out.mono ?_
 rintro e w2 ⟨a, c, rfl, hb3⟩
 have hb4 := HB2.out.trans (hb3.mono HB2.out.size)
 clear hb3 HRR
 go_wp2
 refine bodyPost_ret (v := .tuple #[.int .i64 (m : Int), .nilIface]) (by simp [results, Tryz.results11, go_sem]) rfl ⟨rfl, hb4⟩
end
end
section
open Go.RowKit Go.Maps
structure NV where
 a : Option Addr
 n : Nat
 c : Nat
def NV.val (x : NV) : Value := .agg #[.slice x.a x.n x.c]
def NV.dat (x : NV) : DataW Unit :=
 match x.a with
 | none => .agg [.lit (.int .i64 x.n), .lit (.int .i64 x.c)]
 | some ⟨b, o, none⟩ => .agg [.lit (.int .i64 x.n), .lit (.int .i64 x.c), .lit (.int .i64 b), .lit (.int .i64 o)]
 | some ⟨b, o, some s⟩ => .agg [.lit (.int .i64 x.n), .lit (.int .i64 x.c), .lit (.int .i64 b), .lit (.int .i64 o), .lit (.int .i64 s)]
theorem NV.dat_inj {x y : NV} (h : x.dat = y.dat) : x = y := by
 obtain ⟨a, n, c⟩ := x
 obtain ⟨b, m, d⟩ := y
 rcases a with _ | ⟨ab, ao, _ | sa⟩ <;> rcases b with _ | ⟨bb, bo, _ | sb⟩ <;> simp [NV.dat] at h ⊢ <;> omega
def natR (v : Value) : Option (DataW Unit × List MemPlace) :=
 match v with
 | .agg cs =>
  match cs.toList with
  | [.slice a n c] => some (NV.dat ⟨a, n, c⟩, [])
  | _ => none
 | _ => none
theorem natR_val (x : NV) : natR x.val = some (x.dat, []) := rfl
theorem natR_inv {v : Value} {x : NV} {ps : List MemPlace} (h : natR v = some (x.dat, ps)) : v = x.val := by
 unfold natR at h
 split at h
 ·rename_i cs
  split at h
  ·rename_i a n c e
   simp only [Option.some.injEq, Prod.mk.injEq] at h
   rw [<- NV.dat_inj h.1]
   have : cs = #[.slice a n c] := by cases cs; simp at e; rw [e]
   rw [this]; rfl
  ·cases h
 ·cases h
theorem zeroNat (w : World) : (zeroValue 30).run Tryz.prog w = .ok (.agg #[.slice none 0 0]) w := by kernel_rfl
def NRep (D : DataW Unit) (L : List (Int × NV)) : Prop := Rep I64 (fun x => Lit.int .i64 x) NV.dat D L
section
variable {w : World} {bm n : Nat} {D : DataW Unit} {L : List (Int × NV)}
theorem nlook_found (hD : w.ownsMap Tryz.prog 3 natR bm n D) (hR : NRep D L) {p : Int × NV} (hp : p ∈ L) :
  (Instr.lookup 85 (.map (some bm)) (.int .i64 p.1) true).run Tryz.prog w = .ok (.tuple #[p.2.val, .bool true]) w := by
 obtain ⟨v, ps, hrun, hv⟩ := hD.look_ok lawI Tryz.underlying85 (zeroNat w) (natR_val ⟨none, 0, 0⟩) (keyI (Rep.oks hR p hp))
 rw [Rep.at' hR p hp] at hv
 rw [(Rep.has hR p.1 (Rep.oks hR p hp)).2 (List.mem_map_of_mem hp), natR_inv hv] at hrun
 exact hrun
theorem nlook_none (hD : w.ownsMap Tryz.prog 3 natR bm n D) (hR : NRep D L) {a : Int} (ha : I64 a) (hn : a ∉ L.map Prod.fst) :
  (Instr.lookup 85 (.map (some bm)) (.int .i64 a) true).run Tryz.prog w = .ok (.tuple #[.agg #[.slice none 0 0], .bool false]) w := by
 obtain ⟨v, ps, hrun, hv⟩ := hD.look_ok lawI Tryz.underlying85 (zeroNat w) (natR_val ⟨none, 0, 0⟩) (keyI ha)
 have hh := Rep.not hR ha hn
 rw [atKey_of_not_has hh] at hv
 rw [hh, natR_inv hv] at hrun
 exact hrun
end
end
end Go.Proofs.YtcjjekhecjmaeaaGreatDoor
