/- The reference's families: maps from sets to true, and ranging over them. -/
import Derived.Test.YtbklgjmkdhinpaaFmSetsW
import Derived.Test.YtbklgjmkdhinpaaFmSort
import Derived.Test.YtbklgjmkdhinpaaFmSetsP
import Derived.Maps.RangeWalk
set_option maxHeartbeats 2000000
set_option maxRecDepth 100000
namespace Go.Proofs.Ytbklgjmkdhinpaa.Fm
open Go.RowKit Go.Maps Go.Proofs.Ytbklgjmkdhinpaa.Bd
theorem nsF_len (ns : List Nd) : ∀ (d : Nat) (h : Int) (x : Nat), nsF d ns h = (stF d ns h x).length
 | 0, h, x => by unfold nsF stF; split <;> rfl
 | d + 1, h, x => by
  unfold nsF stF
  split
  ·split <;> rfl
  ·rw [List.length_append, nsF_len ns d _ x, nsF_len ns d _ (x ||| 2 ^ (topOf ns h).toNat)]
theorem nsN_len (ns : List Nd) (h : Int) (x : Nat) : nsN ns h = (stL ns h x).length := nsF_len ns 24 h x
theorem allS_len : ∀ (n v : Nat), (allS n v).length = 2 ^ n
 | 0, _ => rfl
 | n + 1, v => by unfold allS; rw [List.length_append, List.length_map, allS_len n, Nat.pow_succ]; omega
theorem nsN_vars {vars : Nat} {ns : List Nd} (hg : Good vars ns) (hv : vars <= 24) {h : Int} (hh : hasB ns h = true) : nsN ns h <= 2 ^ vars := by
 rw [nsN_len ns h 0, stL_all hg hv hh, <- allS_len vars 0]
 exact List.length_filter_le _ _
def UAt (w : World) (g : Nat) (l : List Nat) : Prop := g < w.heap.size /\ ∀ i, i < l.length -> w.cell? ⟨g, i, none⟩ = some (.int .u64 (l.getD i 0 : Nat))
theorem UAt.below {w w' : World} {g : Nat} {l : List Nat} (h : UAt w g l) (hb : Below w.heap.size w w') : UAt w' g l := ⟨Nat.lt_of_lt_of_le h.1 hb.size, fun i hi => (hb.cell (p := ⟨g, i, none⟩) h.1).trans (h.2 i hi)⟩
theorem row_u {N n c : Nat} {w : World} {a : Option Addr} {l : List Nat} (h : w.ownsRow N 50 1 (.slice a n c) l.length (ucells l)) (hne : 0 < l.length) : ∃ g, a = some ⟨g, 0, none⟩ /\ UAt w g l /\ n = l.length /\ N <= g := by
 rcases h.2 with ⟨-, e⟩ | ⟨g, cap, cur, e, h2, h3, h4⟩
 ·omega
 ·cases e
  have hlt := h.lt g rfl
  refine ⟨g, rfl, ⟨hlt.2, fun i hi => ?_⟩, rfl, hlt.1⟩
  have := h.cellAt i (by omega)
  rwa [ucells_at l i hi] at this
section
variable {B s b : Nat} {O : Nat -> Prop} {vars room : Nat} {ns : List Nd}
theorem list_two (w : World) (hF : FamAt B w s b O vars room ns) (h : Int) (hh : hasB ns h = true) (x y : Nat) (hxy : x <= y) (hst : stL ns h 0 = [x, y]) (most : Int) (hm : 2 <= most) :
  Calls Try.prog 12 #[.pointer (some ⟨s, 0, none⟩), .int .i64 h, .int .i64 most] w fun e w' => ∃ g c, e = .returned (.tuple #[.slice (some ⟨g, 0, none⟩) 2 c, .nilIface]) /\ UAt w' g [x, y] /\ Below w.heap.size w w' := by
 have hn : nsN ns h = 2 := by rw [nsN_len ns h 0, hst]; rfl
 have HL := Lib.hid (listed_yes w hF h hh most (by omega))
 have hlen := hF.len
 have HST : Hid (∀ W, Below w.heap.size w W -> Calls Try.prog 36 #[.pointer (some ⟨s, 0, none⟩), .int .i64 h, .int .u64 0, .slice none 0 0] W (SetsOut w.heap.size [x, y] (.slice none 0 0) W)) := fun W hW => by
  have := sets_any (B := B) (N := w.heap.size) (s := s) (b := b) (O := O) (vars := vars) (room := (room : Int)) hF.good.ranked (by omega) (fun k hk => (hF.space.own k hk).2) hF.space.slt 24 W (hF.space.new hW) hW.size h hh (by have := (topOf_le hF.good.ranked h).1; omega) 0 (by decide) [] (by decide) none 0 (World.ownsRow_nil _ _ _ _)
  rw [hst] at this
  exact this
 unfold SetsOut at HST
 clear hF hh hst hn
 go_enter Try.func12, Try.ntmps12
 go_wp2_with fail
 refine HL.out.mono ?_
 rintro e w1 ⟨rfl, hb1⟩
 clear HL
 go_wp2_with fail
 refine (HST.out _ hb1).mono ?_
 rintro e w2 ⟨a2, c2, rfl, hrow, hk, -⟩
 obtain ⟨g, rfl, hU, -, -⟩ := row_u hrow (by simp)
 have hb2 : Below w.heap.size w w2 := hb1.trans (hk.below hb1.size (fun i hi => by simp [Value.ownBlock] at hi))
 have HS := Lib.hid (sort_two g c2 (x : Int) (y : Int) (by omega) w2 (hU.2 0 (by simp)) (hU.2 1 (by simp)))
 have HU := Lib.hid hU
 have HB2 := Lib.hid hb2
 clear hrow hk hU hb2 HST
 simp only [List.length_cons, List.length_nil, Nat.zero_add, Nat.reduceAdd]
 go_wp2_with fail
 refine HS.out.mono ?_
 rintro e w3 ⟨rfl, hb3⟩
 have HOUT : Hid (∃ g' c, Ending.returned (.tuple #[.slice (some ⟨g, 0, none⟩) 2 c2, .nilIface]) = .returned (.tuple #[.slice (some ⟨g', 0, none⟩) 2 c, .nilIface]) /\ UAt w3 g' [x, y] /\ Below w.heap.size w w3) := ⟨g, c2, rfl, HU.out.below hb3, HB2.out.trans (hb3.mono HB2.out.size)⟩
 clear hb3 HS HU HB2
 go_wp2
 go_ret2
 exact HOUT.out
theorem same_two (w : World) (g1 g2 c1 c2 : Nat) (x y : Nat) (h1 : UAt w g1 [x, y]) (h2 : UAt w g2 [x, y]) :
  Calls Try.prog 40 #[.slice (some ⟨g1, 0, none⟩) 2 c1, .slice (some ⟨g2, 0, none⟩) 2 c2] w fun e w' => e = .returned (.bool true) /\ Below w.heap.size w w' := by
 have H1 := Lib.hid h1
 have H2 := Lib.hid h2
 clear h1 h2
 go_enter Try.func40, Try.ntmps40
 go_wp2_with fail
 go_loopw [5] (fun i wr => ∃ k : Nat, k <= 2 /\ i = .int .i64 (k : Int) /\ Below w.heap.size w wr) (fun i _ => 2 - (intOf i).toNat)
 case atStart => exact ⟨0, by omega, rfl, Below.refl _ _⟩
 case round =>
  obtain ⟨k, hk, rfl, hb⟩ := hrel
  by_cases hlt : k < 2
  ·have a0 := (H1.out.below hb).2 k hlt
   have b0 := (H2.out.below hb).2 k hlt
   have i1 : (k : Int) < 2 := by omega
   generalize ([x, y] : List Nat).getD k 0 = z at *
   have HB := Lib.hid hb
   clear hb
   go_wp2_with fail
   go_quiet (fail)
   go_wp2
   go_roundw
   case rel => exact ⟨k + 1, by omega, by go_num, below_drewN HB.out _⟩
   case measure => simp [intOf]; omega
  ·obtain rfl : k = 2 := by omega
   go_wp2
   go_ret
   exact ⟨rfl, hb⟩
end
end Go.Proofs.Ytbklgjmkdhinpaa.Fm
namespace Go.Proofs.Ytbklgjmkdhinpaa.Fm
open Go.RowKit Go.Maps Go.Proofs.Ytbklgjmkdhinpaa.Bd
theorem set25 {ns : List Nd} (hg : Good 3 ns) {h : Int} (hh : hasB ns h = true) (hm : ∀ y, In ns h y ↔ y = 5 \/ y = 2) : stL ns h 0 = [2, 5] := by
 rw [stL_all hg (by omega) hh]
 have e : ∀ y, inB ns h y = decide (y = 5 \/ y = 2) := fun y => by
  have := hm y
  unfold In at this
  rw [Bool.eq_iff_iff, decide_eq_true_eq]; exact this
 have e2 : inB ns h = fun y => decide (y = 5 \/ y = 2) := funext e
 rw [e2]
 decide
theorem ksets_any (w : World) : Calls Try.prog 15 #[] w fun e w' => e = .returned (.bool true) /\ Below w.heap.size w w' := by
 have HN' : Hid (Calls Try.prog 30 #[.int .i64 3, .int .i64 50] w fun e w' => ∃ s b O, e = .returned (.tuple #[.pointer (some ⟨s, 0, none⟩), .nilIface]) /\ FamAt w.heap.size w' s b O 3 50 [] /\ w.heap.size <= s /\ (∀ k, O k -> w.heap.size <= k) /\ Below w.heap.size w w') := fnew_any 3 50 (by omega) (by omega) w w.heap.size (Nat.le_refl _)
 go_enter Try.func15, Try.ntmps15
 go_wp2_with fail
 refine HN'.out.mono ?_
 rintro e w1 ⟨s, b, O, rfl, hF1, hs, hO, hb1⟩
 have z0 : cntT 3 ([] : List Nd) = 0 := rfl
 have H1 : Hid (Calls Try.prog 39 #[.pointer (some ⟨s, 0, none⟩), .int .u64 5] w1 (OneOut w.heap.size s b O 3 50 [] 5 w1)) := one_any hF1 5 (by decide) (by rw [z0]; omega)
 have HO := Lib.hid hO
 have HB1 := Lib.hid hb1
 clear HN' hF1 hO hb1
 go_wp2_with fail
 refine H1.out.mono ?_
 rintro e w2 ⟨a, ns2, O2, rfl, hF2, mv2, -, ha2, ma2, hc2⟩
 rw [z0] at hc2
 have H2 : Hid (Calls Try.prog 39 #[.pointer (some ⟨s, 0, none⟩), .int .u64 2] w2 (OneOut w.heap.size s b O2 3 50 ns2 2 w2)) := one_any hF2 2 (by decide) (by omega)
 have G2 := Lib.hid hF2.good
 have HA2 := Lib.hid ha2
 have MA2 := Lib.hid ma2
 have M2 := Lib.hid mv2
 clear H1 hF2 mv2 ha2 ma2
 go_wp2_with fail
 refine H2.out.mono ?_
 rintro e w3 ⟨c, ns3, O3, rfl, hF3, mv3, hx3, hc3, mc3, hn3⟩
 have ha3 := hx3.has _ HA2.out
 have r3 : cost (rr 3 (-1)) .or = 1 := by decide
 have H3 := Lib.hid (or_any hF3 ha3 hc3 (by rw [r3]; omega))
 have hmem : ∀ y, opP .or (In ns3 a) (In ns3 c) y ↔ y = 5 \/ y = 2 := fun y => by
  show In ns3 a y \/ In ns3 c y ↔ _
  rw [in_ext G2.out.ranked hx3 HA2.out, MA2.out, mc3]
 have HM := Lib.hid hmem
 have M3 := Lib.hid (M2.out.trans mv3)
 clear H2 hF3 mv3 hx3 hc3 mc3 hn3 hmem ha3 M2
 go_wp2_with fail
 refine H3.out.mono ?_
 rintro e w4 ⟨d, ns4, O4, rfl, hF4, mv4, -, hd4, md4, hn4⟩
 have hst := set25 hF4.good hd4 (fun y => (md4 y).trans (HM.out y))
 have HL : Hid (Calls Try.prog 12 #[.pointer (some ⟨s, 0, none⟩), .int .i64 d, .int .i64 9] w4 fun e w' => ∃ g c, e = .returned (.tuple #[.slice (some ⟨g, 0, none⟩) 2 c, .nilIface]) /\ UAt w' g [2, 5] /\ Below w4.heap.size w4 w') := list_two w4 hF4 d hd4 2 5 (by omega) hst 9 (by omega)
 have HB4 : Hid (Below w.heap.size w w4) := HB1.out.trans ((M3.out.trans mv4).below HB1.out.size HO.out)
 clear H3 hF4 mv4 hd4 md4 hn4 hst HM M3 HO HB1
 go_wp2_with fail
 refine HL.out.mono ?_
 rintro e w5 ⟨g, c5, rfl, hU, hb5⟩
 have HB5 := Lib.hid (HB4.out.trans (hb5.mono HB4.out.size))
 have hb6 := below_new w5 (.cells #[.int .u64 2, .int .u64 5] 50)
 have hU2 : UAt (w5.alloc (.cells #[.int .u64 2, .int .u64 5] 50)) w5.heap.size [2, 5] := ⟨by simp, fun i hi => by
  simp at hi
  rcases (by omega : i = 0 \/ i = 1) with rfl | rfl <;> simp⟩
 have HS := Lib.hid (same_two (w5.alloc (.cells #[.int .u64 2, .int .u64 5] 50)) g w5.heap.size c5 2 2 5 (hU.below hb6) hU2)
 have HB6 := Lib.hid (HB5.out.trans (hb6.mono HB5.out.size))
 clear HL hU hb5 hU2 hb6 HB4
 go_wp2_with fail
 refine HS.out.mono ?_
 rintro e w7 ⟨rfl, hb7⟩
 have HB7 := Lib.hid (HB6.out.trans (hb7.mono HB6.out.size))
 clear hb7 HS HB6
 go_wp2
 go_ret
 exact ⟨rfl, HB7.out⟩
theorem store_no (things : Int) (a : Option Addr) (n c : Nat) (h : things < 0 \/ 6 < things \/ 20 < n) (hn : n <= 9223372036854775807) (w : World) :
  Calls Try.prog 14 #[.int .i64 things, .slice a n c] w fun e w' => e = .returned (.tuple #[.pointer none, .slice none 0 0, .bool false]) /\ w = w' := by
 by_cases c1 : things < 0
 ·clear h
  go_enter Try.func14, Try.ntmps14
  go_wp2
  refine bodyPost_ret (v := .tuple #[.pointer none, .slice none 0 0, .bool false]) (by simp [results, Try.results14, go_sem]) rfl ⟨rfl, rfl⟩
 by_cases c2 : 6 < things
 ·clear h
  go_enter Try.func14, Try.ntmps14
  go_wp2
  refine bodyPost_ret (v := .tuple #[.pointer none, .slice none 0 0, .bool false]) (by simp [results, Try.results14, go_sem]) rfl ⟨rfl, rfl⟩
 ·have c3 : (20 : Int) < (n : Int) := by omega
  have d1 : decide (things < 0) = false := by simpa using c1
  have d2 : decide (6 < things) = false := by simpa using c2
  clear h
  go_enter Try.func14, Try.ntmps14
  go_wp2
  refine bodyPost_ret (v := .tuple #[.pointer none, .slice none 0 0, .bool false]) (by simp [results, Try.results14, go_sem]) rfl ⟨rfl, rfl⟩
def StoreOut (vars : Nat) (xs : List Quad) (w : World) (e : Ending) (w' : World) : Prop :=
 ∃ s b O ns al a c, e = .returned (.tuple #[.pointer (some ⟨s, 0, none⟩), .slice a al.length c, .bool true]) /\ FamAt w.heap.size w' s b O vars 4000 ns /\ Sems vars ns al (famT vars [fun _ => False, fun y => y = 0] xs) /\
  w'.ownsRow w.heap.size 3 1 (.slice a al.length c) al.length (icells al) /\ (∀ k, (Value.slice a al.length c).ownBlock = some k -> ¬ O k /\ k ≠ s /\ w.heap.size <= k) /\ (∀ k, O k -> w.heap.size <= k) /\ Below w.heap.size w w' /\ cntT vars ns <= 1800
theorem store_yes (vars : Nat) (hv6 : vars <= 6) (xs : List Quad) (v : Value) (w : World) (hx : ArgQuads w v xs) (hxl : xs.length <= 20) :
  Calls Try.prog 14 #[.int .i64 (vars : Int), v] w (StoreOut vars xs w) := by
 obtain ⟨a, cap, rfl, hx⟩ := hx
 have HN : Hid (Calls Try.prog 30 #[.int .i64 (vars : Int), .int .i64 4000] w fun e w' => ∃ s b O, e = .returned (.tuple #[.pointer (some ⟨s, 0, none⟩), .nilIface]) /\ FamAt w.heap.size w' s b O vars 4000 [] /\ w.heap.size <= s /\ (∀ k, O k -> w.heap.size <= k) /\ Below w.heap.size w w') := fnew_any vars 4000 (by omega) (by omega) w w.heap.size (Nat.le_refl _)
 have HX := Lib.hid hx
 have i1 : (xs.length : Int) <= 20 := by omega
 have i2 : (0 : Int) <= (vars : Int) := by omega
 have i3 : (vars : Int) <= 6 := by omega
 clear hx
 go_enter Try.func14, Try.ntmps14
 go_wp2_with fail
 refine HN.out.mono ?_
 rintro e w1 ⟨s, b, O, rfl, hS, hs, hO, hb1⟩
 have HF := Lib.hid (families_any hS hv6 xs a cap (fun i hi => by
  obtain ⟨ad, h1, h2⟩ := HX.out i hi
  exact ⟨ad, h1, h2.below hb1 h2.lt, fun ho => by have := hO _ ho; have := h2.lt; omega⟩) hxl rfl (by omega))
 have HO := Lib.hid hO
 have HB1 := Lib.hid hb1
 clear HN hS hO hb1
 go_wp2_with fail
 refine HF.out.mono ?_
 rintro e w2 ⟨ns, al, a2, c2, O2, rfl, hF⟩
 have hal : al.length = 2 + xs.length := by
  have := hF.sems.len
  rw [famT_len] at this
  simpa using this
 have hfin : StoreOut vars xs w (.returned (.tuple #[.pointer (some ⟨s, 0, none⟩), .slice a2 al.length c2, .bool true])) w2 :=
  ⟨s, b, O2, ns, al, a2, c2, rfl, hF.fam, hF.sems, hF.row, fun k hk => ⟨(hF.apart k hk).1, (hF.apart k hk).2.1, by have := (hF.apart k hk).2.2; have := HB1.out.size; omega⟩, fun k hk => by
   rcases hF.moves.own k hk with h | h
   ·exact HO.out k h
   ·have := HB1.out.size; omega, HB1.out.trans (hF.moves.below HB1.out.size HO.out), by have := hF.cnt; omega⟩
 have HFIN := Lib.hid hfin
 clear HF hF hfin hal
 go_wp2
 refine bodyPost_ret (v := .tuple #[.pointer (some ⟨s, 0, none⟩), .slice a2 al.length c2, .bool true]) (by simp [results, Try.results14, go_sem]) rfl HFIN.out
end Go.Proofs.Ytbklgjmkdhinpaa.Fm
namespace Go.Proofs.Ytbklgjmkdhinpaa.Fm
open Go.RowKit Go.Maps Go.Proofs.Ytbklgjmkdhinpaa.Bd
def UOk (x : Nat) : Prop := x < 18446744073709551616
def uLit (x : Nat) : Lit := .int .u64 (x : Int)
def trueElem : Value -> Option (DataW Unit × List MemPlace)
 | .bool b => some (.lit (.bool b), [])
 | _ => none
theorem trueElem_mk (b : Bool) : trueElem (.bool b) = some (.lit (.bool b), []) := rfl
theorem wfU {x : Nat} (h : UOk x) : (Lit.int .u64 (x : Int)).wf = true := by
 unfold UOk at h
 simp [Lit.wf, IntKind.min, IntKind.max, IntKind.signed, IntKind.bits]
 omega
theorem lawU : Keyed Try.prog 50 := int_keyed Try.underlying50
theorem keyU {x : Nat} (h : UOk x) : keyOf Try.prog 50 (.int .u64 (x : Int)) = some (uLit x) := keyOf_int_mk Try.underlying50 (wfU h)
theorem uLit_inj {x y : Nat} (h : uLit x = uLit y) : x = y := by unfold uLit at h; injection h; omega
theorem uLit_key (x : Nat) : WideAt.IsKeyLit (uLit x) := trivial
abbrev RepU (D : DataW Unit) (L : List Nat) : Prop := Rep UOk uLit (fun _ : Unit => .lit (.bool true)) D (L.map fun x => (x, ()))
def FL (w : World) (b : Nat) (L : List Nat) : Prop := ∃ D, w.ownsMap Try.prog 50 trueElem b L.length D /\ RepU D L
def FM (w : World) (b : Nat) (S : Nat -> Prop) : Prop := ∃ L, FL w b L /\ ∀ x, x ∈ L ↔ S x
section
variable {w w' : World} {b : Nat} {L : List Nat} {S S' : Nat -> Prop}
theorem fst_map (L : List Nat) : (L.map fun x => (x, ())).map Prod.fst = L := by rw [List.map_map]; exact List.map_id _
theorem RepU.nodup' {D : DataW Unit} (h : RepU D L) : L.Nodup := by have := h.nodup; rwa [fst_map] at this
theorem RepU.ok' {D : DataW Unit} (h : RepU D L) {x : Nat} (hx : x ∈ L) : UOk x := h.oks (x, ()) (List.mem_map_of_mem hx)
theorem FL.lt (h : FL w b L) : b < w.heap.size := by obtain ⟨D, hD, _⟩ := h; exact hD.lt
theorem FL.grown {r : Option Nat} (h : FL w b L) (hg : w.grownBy w' r) (hr : some b ≠ r) : FL w' b L := by obtain ⟨D, hD, hR⟩ := h; exact ⟨D, hD.kept hg hr, hR⟩
theorem FL.below (h : FL w b L) (hb : Below w.heap.size w w') : FL w' b L := by
 have hl := h.lt
 obtain ⟨D, ⟨es, clock, h1, h2⟩, hR⟩ := h
 exact ⟨D, ⟨es, clock, (hb.block b hl).trans h1, h2⟩, hR⟩
theorem FL.made (w : World) : FL (w.alloc (.map #[] 0)) w.heap.size [] := ⟨.map [], World.ownsMap_made w _ _ _, Rep.empty⟩
theorem FL.nodup (h : FL w b L) : L.Nodup := by obtain ⟨D, _, hR⟩ := h; exact RepU.nodup' hR
theorem FL.ok (h : FL w b L) {x : Nat} (hx : x ∈ L) : UOk x := by obtain ⟨D, _, hR⟩ := h; exact RepU.ok' hR hx
def putU (L : List Nat) (x : Nat) : List Nat := if x ∈ L then L else L ++ [x]
theorem mem_putU {x y : Nat} : y ∈ putU L x ↔ y ∈ L \/ y = x := by
 unfold putU; split
 ·constructor
  ·exact .inl
  ·rintro (h | rfl) <;> assumption
 ·simp
theorem FL.put (h : FL w b L) (hl : L.length < 1000000) {x : Nat} (hx : UOk x) : ∃ w', (Instr.mapUpdate 31 (.map (some b)) (.int .u64 (x : Int)) (.bool true)).run Try.prog w = .ok () w' /\ FL w' b (putU L x) /\ w.grownBy w' (some b) := by
 obtain ⟨D, hD, hR⟩ := h
 obtain ⟨w', hrun, h1, h2⟩ := hD.update lawU Try.underlying31 (by unfold maxLen; omega) (keyU hx) (trueElem_mk true)
 have hR' : RepU (D.put (uLit x) (.lit (.bool true))) (putU L x) := by
  unfold putU
  by_cases hm : x ∈ L
  ·rw [if_pos hm]
   exact hR.put_same (fun _ _ _ _ e => uLit_inj e) uLit_key (p := (x, ())) (List.mem_map_of_mem hm)
  ·rw [if_neg hm]
   have := hR.put (fun _ _ _ _ e => uLit_inj e) uLit_key hx (by rw [fst_map]; exact hm) ()
   unfold RepU
   rw [List.map_append]; exact this
 refine ⟨w', hrun, ⟨_, ?_, hR'⟩, h2⟩
 have := ownsMap_norm h1
 rw [hR'.size, List.length_map] at this
 exact this
theorem FM.lt (h : FM w b S) : b < w.heap.size := by obtain ⟨L, h, _⟩ := h; exact h.lt
theorem FM.grown {r : Option Nat} (h : FM w b S) (hg : w.grownBy w' r) (hr : some b ≠ r) : FM w' b S := by obtain ⟨L, h, e⟩ := h; exact ⟨L, h.grown hg hr, e⟩
theorem FM.below (h : FM w b S) (hb : Below w.heap.size w w') : FM w' b S := by obtain ⟨L, h, e⟩ := h; exact ⟨L, h.below hb, e⟩
theorem FM.made (w : World) : FM (w.alloc (.map #[] 0)) w.heap.size (fun _ => False) := ⟨[], FL.made w, fun x => by simp⟩
theorem FM.congr (h : FM w b S) (e : ∀ x, S x ↔ S' x) : FM w b S' := by obtain ⟨L, h, e'⟩ := h; exact ⟨L, h, fun x => (e' x).trans (e x)⟩
theorem FM.put (h : FM w b S) (hs : ∀ x, S x -> x < 65536) {x : Nat} (hx : UOk x) : ∃ w', (Instr.mapUpdate 31 (.map (some b)) (.int .u64 (x : Int)) (.bool true)).run Try.prog w = .ok () w' /\ FM w' b (fun y => S y \/ y = x) /\ w.grownBy w' (some b) := by
 obtain ⟨L, h, e⟩ := h
 have hl : L.length <= 65536 := nodupLe 65536 L h.nodup (fun x hx => hs x ((e x).1 hx))
 obtain ⟨w', hr, h', hg⟩ := h.put (by omega) hx
 exact ⟨w', hr, ⟨_, h', fun y => by rw [mem_putU, e]⟩, hg⟩
def RM (w : World) (b r : Nat) (S R : Nat -> Prop) (cnt : Nat) : Prop := ∃ L D left, w.ranges Try.prog 50 trueElem b r L.length D left cnt /\ RepU D L /\ (∀ x, x ∈ L ↔ S x) /\ (∀ x, R x -> S x) /\ (∀ x, UOk x -> (left (uLit x) = true ↔ R x)) /\ (∀ kl, left kl = true -> Maps.has D kl = true)
theorem RM.fm {r cnt : Nat} {R : Nat -> Prop} (h : RM w b r S R cnt) : FM w b S := by obtain ⟨L, D, left, h1, h2, h3, _⟩ := h; exact ⟨L, ⟨D, h1.owns, h2⟩, h3⟩
theorem RM.left_eq {r cnt : Nat} {R : Nat -> Prop} (h : RM w b r S R cnt) : w.rangeLeft b r = cnt := by obtain ⟨L, D, left, h1, _⟩ := h; exact h1.left_eq
theorem RM.lt {r cnt : Nat} {R : Nat -> Prop} (h : RM w b r S R cnt) : r < w.heap.size := by obtain ⟨L, D, left, h1, _⟩ := h; exact h1.lt
theorem RM.grown {r cnt : Nat} {R : Nat -> Prop} {row : Option Nat} (h : RM w b r S R cnt) (hg : w.grownBy w' row) (hb : some b ≠ row) (hr : some r ≠ row) : RM w' b r S R cnt := by obtain ⟨L, D, left, h1, h2⟩ := h; exact ⟨L, D, left, h1.kept hg hb hr, h2⟩
end
section
variable (w : World) {ops : Array Oper} {rest : List Oper} {o : Oper} {a : Act} {Q : Exit -> Act -> World -> Prop}
end
end Go.Proofs.Ytbklgjmkdhinpaa.Fm
