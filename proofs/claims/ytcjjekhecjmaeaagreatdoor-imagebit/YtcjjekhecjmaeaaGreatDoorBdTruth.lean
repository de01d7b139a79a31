/- The fact 'truth', and a space with steps' functions. -/
import Derived.Test.YtcjjekhecjmaeaaGreatDoorBdFunW
import Derived.Test.YtcjjekhecjmaeaaGreatDoorBdHolds
import Derived.Test.YtcjjekhecjmaeaaGreatDoorBdFree
set_option maxHeartbeats 2000000
set_option maxRecDepth 100000
namespace Go.Proofs.YtcjjekhecjmaeaaGreatDoor
section
open Go.RowKit Go.Maps
def Is (ns : List Nd) (h : Int) (g : Fn') : Prop := hasB ns h = true /\ ∀ f, sem ns h f = g f
def OpIs (B s b : Nat) (O : Nat -> Prop) (vars : Nat) (room : Int) (ns : List Nd) (g : Fn') (w : World) (e : Ending) (w' : World) : Prop :=
 ∃ (h : Int) (ns' : List Nd) (O' : Nat -> Prop), e = .returned (.tuple #[.int .i64 h, .nilIface]) /\ SpaceAt B w' s b O' vars room ns' /\ Moves O O' w w' /\ Good vars ns' /\ Ext ns ns' /\ Is ns' h g /\ ns'.length + 1 <= ns.length + 2 ^ vars
section
variable {B s b : Nat} {O : Nat -> Prop} {vars : Nat} {room : Int} {ns : List Nd} {w w' : World}
theorem Is.ext {ns' : List Nd} {h : Int} {g : Fn'} (i : Is ns h g) (hr : Ranked ns) (he : Ext ns ns') : Is ns' h g := ⟨he.has h i.1, fun f => by rw [sem_ext hr he i.1]; exact i.2 f⟩
theorem Is.same {h k : Int} {g g' : Fn'} (hg : Good vars ns) (i : Is ns h g) (j : Is ns k g') (e : ∀ f, g f = g' f) : h = k := same_handle hg i.1 j.1 (fun f => by rw [i.2 f, j.2 f, e f])
theorem op_is {F : FuncId} {args : Array Value} {r : List Nd × Int} {g g' : Fn'} (h : Calls Tryz.prog F args w (OpOut B s b O vars room r w)) (hr : OpR vars ns r g) (e : ∀ f, g f = g' f) : Calls Tryz.prog F args w (OpIs B s b O vars room ns g' w) :=
 h.mono fun _ _ ⟨he, O', hS, hM⟩ => ⟨r.2, r.1, O', he, hS, hM, hr.good, hr.ext, ⟨hr.has, fun f => by rw [hr.sem f, e f]⟩, hr.len⟩
theorem room_len (hR : Room B w vars room ns) : ns.length + 2 ^ vars <= 900000 := by have := hR.l; have := hR.r; omega
variable (h : SpaceAt B w s b O vars room ns) (hg : Good vars ns) (hR : Room B w vars room ns)
include h hg hR
theorem lit_is {v : Int} (is : Bool) (hv0 : 0 <= v) (hv : v < (vars : Int)) : Calls Tryz.prog 58 #[.pointer (some ⟨s, 0, none⟩), .int .i64 v, .bool is] w (OpIs B s b O vars room ns (fun f => f v.toNat == is) w) :=
 op_is (lit_op h hR v is hv0 hv) (lit_ok hg is hv0 hv (by have := hR.v; omega) (room_len hR)) (fun _ => rfl)
end
end
section
open Go.RowKit Go.Maps
theorem pick_any (x : Int) (n : Nat) (h0 : 0 < n) (h1 : n <= 1000000) (w : World) :
  Calls Tryz.prog 30 #[.int .i64 x, .int .i64 (n : Int)] w fun e w' => e = .returned (.int .i64 (pickV x n : Int)) /\ w = w' := by
 have hp := pickV_lt x h0
 have e1 : IntKind.u64.wrap x = x % 18446744073709551616 := by rw [IntKind.wrap_u64]
 have e2 : IntKind.u64.wrap (n : Int) = (n : Int) := IntWalk.u64_in _ ⟨by omega, by omega⟩
 have e3 : Int.tmod (x % 18446744073709551616) (n : Int) = (pickV x n : Int) := by
  unfold pickV
  obtain ⟨m, hm⟩ : ∃ m : Nat, x % 18446744073709551616 = (m : Int) := ⟨(x % 18446744073709551616).toNat, by omega⟩
  rw [hm]; simp
  rfl
 have e4 : IntKind.i64.wrap (pickV x n : Int) = (pickV x n : Int) := IntWalk.i64_in _ ⟨by omega, by omega⟩
 have e5 : ((n : Int) == 0) = false := by rw [beq_eq_false_iff_ne]; omega
 generalize pickV x n = p at *
 go_enter Tryz.func30, Tryz.ntmps30
 go_wp2
 go_ret
 exact ⟨rfl, rfl⟩
end
section
open Go.RowKit Go.Maps
theorem truth_any (w : World) : Calls Tryz.prog 26 #[] w fun e w' => e = .returned (.bool true) /\ Below w.heap.size w w' := by
 have HN := bnew_any 2 (by omega) 50 (by omega) (by omega) w w.heap.size (Nat.le_refl _)
 have HN' : Hid (Calls Tryz.prog 31 #[.int .i64 2, .int .i64 50] w fun e w' => ∃ s b O, e = .returned (.tuple #[.pointer (some ⟨s, 0, none⟩), .nilIface]) /\ SpaceAt w.heap.size w' s b O 2 50 [] /\ w.heap.size <= s /\ (∀ k, O k -> w.heap.size <= k) /\ Below w.heap.size w w') := HN
 clear HN
 go_enter Tryz.func26, Tryz.ntmps26
 go_wp2_with fail
 refine HN'.out.mono ?_
 rintro e w1 ⟨s, b, O, rfl, hS, hs, hO, hb1⟩
 have hR : Room w.heap.size w1 2 50 [] := ⟨by omega, by simp, by omega, hb1.size⟩
 have HL := Lib.hid (lit_is hS (good_nil 2) hR (v := 1) true (by omega) (by simp))
 have HO := Lib.hid hO
 have HB1 := Lib.hid hb1
 clear HN' hS hR hO
 go_wp2_with fail
 refine HL.out.mono ?_
 rintro e w2 ⟨x, ns, O2, rfl, hS2, hM2, hG2, -, hI2, hl2⟩
 have hl : ns.length <= 90000 := by simp at hl2; omega
 have e2 : sem ns x (bitsF 2) = true := by rw [hI2.2]; decide
 have e1 : sem ns x (bitsF 1) = false := by rw [hI2.2]; decide
 have hb2 : Below w.heap.size w w2 := HB1.out.trans (hM2.below HB1.out.size HO.out)
 have H2 := holds_any hS2 hG2 hl x hI2.1 2 (by omega)
 rw [e2] at H2
 have H2' : Hid (Calls Tryz.prog 28 #[.pointer (some ⟨s, 0, none⟩), .int .i64 x, .int .u64 2] w2 fun e w' => e = .returned (.tuple #[.bool true, .nilIface]) /\ Below w2.heap.size w2 w') := H2
 have H1' : Hid (∀ W, Below w2.heap.size w2 W -> Calls Tryz.prog 28 #[.pointer (some ⟨s, 0, none⟩), .int .i64 x, .int .u64 1] W fun e w' => e = .returned (.tuple #[.bool false, .nilIface]) /\ Below W.heap.size W w') := fun W hW => by
  have H1 := holds_any (hS2.new hW) hG2 hl x hI2.1 1 (by omega)
  rw [e1] at H1
  exact H1
 have HB2 := Lib.hid hb2
 clear HL hS2 hM2 hG2 hI2 e2 e1 H2 hb2
 go_wp2_with fail
 refine H2'.out.mono ?_
 rintro e w3 ⟨rfl, hb3⟩
 have H1 := Lib.hid (H1'.out w3 hb3)
 have HB3 := Lib.hid (HB2.out.trans (hb3.mono HB2.out.size))
 clear H2' H1' hb3
 go_wp2_with fail
 refine H1.out.mono ?_
 rintro e w4 ⟨rfl, hb4⟩
 have HB4 := Lib.hid (HB3.out.trans (hb4.mono HB3.out.size))
 clear H1 hb4
 go_wp2
 go_ret
 exact ⟨rfl, HB4.out⟩
theorem space_no (vars : Int) (a : Option Addr) (n c : Nat) (h : vars < 1 \/ 6 < vars \/ 25 < n) (hn : n <= 9223372036854775807) (w : World) :
  Calls Tryz.prog 25 #[.int .i64 vars, .slice a n c] w fun e w' => e = .returned (.tuple #[.pointer none, .slice none 0 0, .bool false]) /\ w = w' := by
 by_cases c1 : vars < 1
 ·clear h
  go_enter Tryz.func25, Tryz.ntmps25
  go_wp2
  refine bodyPost_ret (v := .tuple #[.pointer none, .slice none 0 0, .bool false]) (by simp [results, Tryz.results25, go_sem]) rfl ⟨rfl, rfl⟩
 by_cases c2 : 6 < vars
 ·clear h
  go_enter Tryz.func25, Tryz.ntmps25
  go_wp2
  refine bodyPost_ret (v := .tuple #[.pointer none, .slice none 0 0, .bool false]) (by simp [results, Tryz.results25, go_sem]) rfl ⟨rfl, rfl⟩
 ·have c3 : (25 : Int) < (n : Int) := by omega
  have d1 : decide (vars < 1) = false := by simpa using c1
  have d2 : decide (6 < vars) = false := by simpa using c2
  clear h
  go_enter Tryz.func25, Tryz.ntmps25
  go_wp2
  refine bodyPost_ret (v := .tuple #[.pointer none, .slice none 0 0, .bool false]) (by simp [results, Tryz.results25, go_sem]) rfl ⟨rfl, rfl⟩
def SpaceOut (vars : Nat) (xs : List Quad) (w : World) (e : Ending) (w' : World) : Prop :=
 ∃ s b O a c, e = .returned (.tuple #[.pointer (some ⟨s, 0, none⟩), .slice a (funF vars ([], [0, 1]) xs).2.length c, .bool true]) /\ SpaceAt w.heap.size w' s b O vars 4000 (funF vars ([], [0, 1]) xs).1 /\
  w'.ownsRow w.heap.size 3 1 (.slice a (funF vars ([], [0, 1]) xs).2.length c) (funF vars ([], [0, 1]) xs).2.length (icells (funF vars ([], [0, 1]) xs).2) /\ (∀ k, (Value.slice a (funF vars ([], [0, 1]) xs).2.length c).ownBlock = some k -> ¬ O k /\ k ≠ s /\ w.heap.size <= k) /\ (∀ k, O k -> w.heap.size <= k) /\ Below w.heap.size w w'
theorem space_yes (vars : Nat) (hv0 : 0 < vars) (hv6 : vars <= 6) (xs : List Quad) (v : Value) (w : World) (hx : ArgQuads w v xs) (hxl : xs.length <= 25) :
  Calls Tryz.prog 25 #[.int .i64 (vars : Int), v] w (SpaceOut vars xs w) := by
 obtain ⟨a, cap, rfl, hx⟩ := hx
 have HN := Lib.hid (bnew_any vars (by omega) 4000 (by omega) (by omega) w w.heap.size (Nat.le_refl _))
 have HX := Lib.hid hx
 have i1 : (xs.length : Int) <= 25 := by omega
 have i2 : (1 : Int) <= (vars : Int) := by omega
 have i3 : (vars : Int) <= 6 := by omega
 clear hx
 go_enter Tryz.func25, Tryz.ntmps25
 go_wp2_with fail
 refine HN.out.mono ?_
 rintro e w1 ⟨s, b, O, rfl, hS, hs, hO, hb1⟩
 have HF := Lib.hid (functions_any hS (good_nil vars) hv0 hv6 rfl xs a cap (fun i hi => by
  obtain ⟨ad, h1, h2⟩ := HX.out i hi
  exact ⟨ad, h1, h2.below hb1 h2.lt, fun ho => by have := hO _ ho; have := h2.lt; omega⟩) hxl (by simp; omega) hb1.size)
 have HO := Lib.hid hO
 have HB1 := Lib.hid hb1
 clear HN hS hO hb1
 go_wp2_with fail
 refine HF.out.mono ?_
 rintro e w2 ⟨a2, c2, O2, rfl, hF⟩
 have hfin : SpaceOut vars xs w (.returned (.tuple #[.pointer (some ⟨s, 0, none⟩), .slice a2 (funF vars ([], [0, 1]) xs).2.length c2, .bool true])) w2 :=
  ⟨s, b, O2, a2, c2, rfl, hF.space, hF.row, fun k hk => ⟨(hF.apart k hk).1, (hF.apart k hk).2.1, by have := (hF.apart k hk).2.2; have := HB1.out.size; omega⟩, fun k hk => by
   rcases hF.moves.own k hk with h | h
   ·exact HO.out k h
   ·have := HB1.out.size; omega, HB1.out.trans (hF.moves.below HB1.out.size HO.out)⟩
 have HFIN := Lib.hid hfin
 clear HF hF hfin
 generalize funF vars ([], [0, 1]) xs = r at *
 go_wp2
 refine bodyPost_ret (v := .tuple #[.pointer (some ⟨s, 0, none⟩), .slice a2 r.2.length c2, .bool true]) (by simp [results, Tryz.results25, go_sem]) rfl HFIN.out
end
end Go.Proofs.YtcjjekhecjmaeaaGreatDoor
