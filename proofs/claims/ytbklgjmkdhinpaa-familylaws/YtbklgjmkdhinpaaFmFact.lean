/- The fact 'sets'; a store with steps' families. -/
import Derived.Test.YtbklgjmkdhinpaaArPick
set_option maxHeartbeats 2000000
set_option maxRecDepth 100000
namespace Go.Proofs.Ytbklgjmkdhinpaa.Fm
open Go.RowKit Go.Maps Go.Proofs.Ytbklgjmkdhinpaa.Bd
theorem set25 {ns : List Nd} (hg : Good 3 ns) {h : Int} (hh : hasB ns h = true) (hm : ∀ y, In ns h y ↔ y = 5 \/ y = 2) : stL ns h 0 = [2, 5] := by
 rw [stL_all hg (by omega) hh]
 have e : ∀ y, inB ns h y = decide (y = 5 \/ y = 2) := fun y => by
  have := hm y
  unfold In at this
  rw [Bool.eq_iff_iff, decide_eq_true_eq]; exact this
 have e2 : inB ns h = fun y => decide (y = 5 \/ y = 2) := funext e
 rw [e2]
 decide
theorem ksets_any (w : World) : Calls Try.prog 15 #[] w fun e w' => e = .returned (.bool true) /\ Below w.heap.size w w' := by
 have HN' : Hid (Calls Try.prog 30 #[.int .i64 3, .int .i64 50] w fun e w' => ∃ s b O, e = .returned (.tuple #[.pointer (some ⟨s, 0, none⟩), .nilIface]) /\ FamAt w.heap.size w' s b O 3 50 [] /\ w.heap.size <= s /\ (∀ k, O k -> w.heap.size <= k) /\ Below w.heap.size w w') := fnew_any 3 50 (by omega) (by omega) w w.heap.size (Nat.le_refl _)
 go_enter Try.func15, Try.ntmps15
 go_wp2_with fail
 refine HN'.out.mono ?_
 rintro e w1 ⟨s, b, O, rfl, hF1, hs, hO, hb1⟩
 have z0 : cntT 3 ([] : List Nd) = 0 := rfl
 have H1 : Hid (Calls Try.prog 39 #[.pointer (some ⟨s, 0, none⟩), .int .u64 5] w1 (OneOut w.heap.size s b O 3 50 [] 5 w1)) := one_any hF1 5 (by decide) (by rw [z0]; omega)
 have HO := Lib.hid hO
 have HB1 := Lib.hid hb1
 clear HN' hF1 hO hb1
 go_wp2_with fail
 refine H1.out.mono ?_
 rintro e w2 ⟨a, ns2, O2, rfl, hF2, mv2, -, ha2, ma2, hc2⟩
 rw [z0] at hc2
 have H2 : Hid (Calls Try.prog 39 #[.pointer (some ⟨s, 0, none⟩), .int .u64 2] w2 (OneOut w.heap.size s b O2 3 50 ns2 2 w2)) := one_any hF2 2 (by decide) (by omega)
 have G2 := Lib.hid hF2.good
 have HA2 := Lib.hid ha2
 have MA2 := Lib.hid ma2
 have M2 := Lib.hid mv2
 clear H1 hF2 mv2 ha2 ma2
 go_wp2_with fail
 refine H2.out.mono ?_
 rintro e w3 ⟨c, ns3, O3, rfl, hF3, mv3, hx3, hc3, mc3, hn3⟩
 have ha3 := hx3.has _ HA2.out
 have r3 : cost (rr 3 (-1)) .or = 1 := by decide
 have H3 := Lib.hid (or_any hF3 ha3 hc3 (by rw [r3]; omega))
 have hmem : ∀ y, opP .or (In ns3 a) (In ns3 c) y ↔ y = 5 \/ y = 2 := fun y => by
  show In ns3 a y \/ In ns3 c y ↔ _
  rw [in_ext G2.out.ranked hx3 HA2.out, MA2.out, mc3]
 have HM := Lib.hid hmem
 have M3 := Lib.hid (M2.out.trans mv3)
 clear H2 hF3 mv3 hx3 hc3 mc3 hn3 hmem ha3 M2
 go_wp2_with fail
 refine H3.out.mono ?_
 rintro e w4 ⟨d, ns4, O4, rfl, hF4, mv4, -, hd4, md4, hn4⟩
 have hst := set25 hF4.good hd4 (fun y => (md4 y).trans (HM.out y))
 have HL : Hid (Calls Try.prog 12 #[.pointer (some ⟨s, 0, none⟩), .int .i64 d, .int .i64 9] w4 fun e w' => ∃ g c, e = .returned (.tuple #[.slice (some ⟨g, 0, none⟩) 2 c, .nilIface]) /\ UAt w' g [2, 5] /\ Below w4.heap.size w4 w') := list_two w4 hF4 d hd4 2 5 (by omega) hst 9 (by omega)
 have HB4 : Hid (Below w.heap.size w w4) := HB1.out.trans ((M3.out.trans mv4).below HB1.out.size HO.out)
 clear H3 hF4 mv4 hd4 md4 hn4 hst HM M3 HO HB1
 go_wp2_with fail
 refine HL.out.mono ?_
 rintro e w5 ⟨g, c5, rfl, hU, hb5⟩
 have HB5 := Lib.hid (HB4.out.trans (hb5.mono HB4.out.size))
 have hb6 := below_new w5 (.cells #[.int .u64 2, .int .u64 5] 50)
 have hU2 : UAt (w5.alloc (.cells #[.int .u64 2, .int .u64 5] 50)) w5.heap.size [2, 5] := ⟨by simp, fun i hi => by
  simp at hi
  rcases (by omega : i = 0 \/ i = 1) with rfl | rfl <;> simp⟩
 have HS := Lib.hid (same_two (w5.alloc (.cells #[.int .u64 2, .int .u64 5] 50)) g w5.heap.size c5 2 2 5 (hU.below hb6) hU2)
 have HB6 := Lib.hid (HB5.out.trans (hb6.mono HB5.out.size))
 clear HL hU hb5 hU2 hb6 HB4
 go_wp2_with fail
 refine HS.out.mono ?_
 rintro e w7 ⟨rfl, hb7⟩
 have HB7 := Lib.hid (HB6.out.trans (hb7.mono HB6.out.size))
 clear hb7 HS HB6
 go_wp2
 go_ret
 exact ⟨rfl, HB7.out⟩
theorem store_no (things : Int) (a : Option Addr) (n c : Nat) (h : things < 0 \/ 6 < things \/ 20 < n) (hn : n <= 9223372036854775807) (w : World) :
  Calls Try.prog 14 #[.int .i64 things, .slice a n c] w fun e w' => e = .returned (.tuple #[.pointer none, .slice none 0 0, .bool false]) /\ w = w' := by
 by_cases c1 : things < 0
 ·clear h
  go_enter Try.func14, Try.ntmps14
  go_wp2
  refine bodyPost_ret (v := .tuple #[.pointer none, .slice none 0 0, .bool false]) (by simp [results, Try.results14, go_sem]) rfl ⟨rfl, rfl⟩
 by_cases c2 : 6 < things
 ·clear h
  go_enter Try.func14, Try.ntmps14
  go_wp2
  refine bodyPost_ret (v := .tuple #[.pointer none, .slice none 0 0, .bool false]) (by simp [results, Try.results14, go_sem]) rfl ⟨rfl, rfl⟩
 ·have c3 : (20 : Int) < (n : Int) := by omega
  have d1 : decide (things < 0) = false := by simpa using c1
  have d2 : decide (6 < things) = false := by simpa using c2
  clear h
  go_enter Try.func14, Try.ntmps14
  go_wp2
  refine bodyPost_ret (v := .tuple #[.pointer none, .slice none 0 0, .bool false]) (by simp [results, Try.results14, go_sem]) rfl ⟨rfl, rfl⟩
def StoreOut (vars : Nat) (xs : List Quad) (w : World) (e : Ending) (w' : World) : Prop :=
 ∃ s b O ns al a c, e = .returned (.tuple #[.pointer (some ⟨s, 0, none⟩), .slice a al.length c, .bool true]) /\ FamAt w.heap.size w' s b O vars 4000 ns /\ Sems vars ns al (famT vars [fun _ => False, fun y => y = 0] xs) /\
  w'.ownsRow w.heap.size 3 1 (.slice a al.length c) al.length (icells al) /\ (∀ k, (Value.slice a al.length c).ownBlock = some k -> ¬ O k /\ k ≠ s /\ w.heap.size <= k) /\ (∀ k, O k -> w.heap.size <= k) /\ Below w.heap.size w w' /\ cntT vars ns <= 1800
theorem store_yes (vars : Nat) (hv6 : vars <= 6) (xs : List Quad) (v : Value) (w : World) (hx : ArgQuads w v xs) (hxl : xs.length <= 20) :
  Calls Try.prog 14 #[.int .i64 (vars : Int), v] w (StoreOut vars xs w) := by
 obtain ⟨a, cap, rfl, hx⟩ := hx
 have HN : Hid (Calls Try.prog 30 #[.int .i64 (vars : Int), .int .i64 4000] w fun e w' => ∃ s b O, e = .returned (.tuple #[.pointer (some ⟨s, 0, none⟩), .nilIface]) /\ FamAt w.heap.size w' s b O vars 4000 [] /\ w.heap.size <= s /\ (∀ k, O k -> w.heap.size <= k) /\ Below w.heap.size w w') := fnew_any vars 4000 (by omega) (by omega) w w.heap.size (Nat.le_refl _)
 have HX := Lib.hid hx
 have i1 : (xs.length : Int) <= 20 := by omega
 have i2 : (0 : Int) <= (vars : Int) := by omega
 have i3 : (vars : Int) <= 6 := by omega
 clear hx
 go_enter Try.func14, Try.ntmps14
 go_wp2_with fail
 refine HN.out.mono ?_
 rintro e w1 ⟨s, b, O, rfl, hS, hs, hO, hb1⟩
 have HF := Lib.hid (families_any hS hv6 xs a cap (fun i hi => by
  obtain ⟨ad, h1, h2⟩ := HX.out i hi
  exact ⟨ad, h1, h2.below hb1 h2.lt, fun ho => by have := hO _ ho; have := h2.lt; omega⟩) hxl rfl (by omega))
 have HO := Lib.hid hO
 have HB1 := Lib.hid hb1
 clear HN hS hO hb1
 go_wp2_with fail
 refine HF.out.mono ?_
 rintro e w2 ⟨ns, al, a2, c2, O2, rfl, hF⟩
 have hal : al.length = 2 + xs.length := by
  have := hF.sems.len
  rw [famT_len] at this
  simpa using this
 have hfin : StoreOut vars xs w (.returned (.tuple #[.pointer (some ⟨s, 0, none⟩), .slice a2 al.length c2, .bool true])) w2 :=
  ⟨s, b, O2, ns, al, a2, c2, rfl, hF.fam, hF.sems, hF.row, fun k hk => ⟨(hF.apart k hk).1, (hF.apart k hk).2.1, by have := (hF.apart k hk).2.2; have := HB1.out.size; omega⟩, fun k hk => by
   rcases hF.moves.own k hk with h | h
   ·exact HO.out k h
   ·have := HB1.out.size; omega, HB1.out.trans (hF.moves.below HB1.out.size HO.out), by have := hF.cnt; omega⟩
 have HFIN := Lib.hid hfin
 clear HF hF hfin hal
 go_wp2
 refine bodyPost_ret (v := .tuple #[.pointer (some ⟨s, 0, none⟩), .slice a2 al.length c2, .bool true]) (by simp [results, Try.results14, go_sem]) rfl HFIN.out
end Go.Proofs.Ytbklgjmkdhinpaa.Fm
