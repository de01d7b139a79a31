/- Families. -/
import Derived.Test.YtbklgjmkdhinpaaGreatDoorFmOneS
import Derived.Test.YtbklgjmkdhinpaaGreatDoorFmFun
import Derived.Test.YtbklgjmkdhinpaaGreatDoorQuads
import Derived.Deep.CutBlock
set_option maxHeartbeats 8000000
set_option maxRecDepth 100000
namespace Go.Proofs.YtbklgjmkdhinpaaGreatDoor.Fm
open Go.RowKit Go.Maps Go.Proofs.YtbklgjmkdhinpaaGreatDoor.Bd
theorem cell4 (w : World) (a b c d : Value) (t : TypeId) : (w.alloc (.cells #[a, b, c, d] t)).cell? ⟨w.heap.size, 0, none⟩ = some a /\ (w.alloc (.cells #[a, b, c, d] t)).cell? ⟨w.heap.size, 1, none⟩ = some b /\ (w.alloc (.cells #[a, b, c, d] t)).cell? ⟨w.heap.size, 2, none⟩ = some c /\ (w.alloc (.cells #[a, b, c, d] t)).cell? ⟨w.heap.size, 3, none⟩ = some d := by simp
theorem ints_of_row {B n c : Nat} {w : World} {a : Option Addr} {al : List Int} (h : w.ownsRow B 3 1 (.slice a n c) al.length (icells al)) (hne : 0 < al.length) (hi : ∀ x ∈ al, I64 x) : ∃ g, a = some ⟨g, 0, none⟩ /\ IntsAt w g al /\ n = al.length := by
 rcases h.2 with ⟨-, e⟩ | ⟨g, cap, cur, e, h2, h3, h4⟩
 ·omega
 ·cases e
  have hlt := (h.lt g rfl).2
  refine ⟨g, rfl, ⟨hlt, fun i hi' => ?_, hi⟩, rfl⟩
  have := h.cellAt i (by omega)
  rwa [icells_at al i hi'] at this
theorem built_row (w : World) {B : Nat} (hB : B <= w.heap.size) (xs : Array Value) (e : TypeId) (hm : xs.size <= maxLen) : (w.alloc (.cells xs e)).ownsRow B e 1 (.slice (some ⟨w.heap.size, 0, none⟩) xs.size xs.size) xs.size xs.toList := by
 refine ⟨by simp, .inr ⟨w.heap.size, xs.size, xs, rfl, hB, (MapKept.heap_alloc w _).1, Nat.le_refl _, hm, by simp, ?_⟩⟩
 rw [Nat.mul_one, List.take_of_length_le (by simp)]
theorem At_any (x : Int) (n : Nat) (h0 : 0 < n) (h1 : n <= 1000000) (w : World) :
  Calls Tryz.prog 51 #[.int .i64 x, .int .i64 (n : Int)] w fun e w' => e = .returned (.int .i64 (pickV x n : Int)) /\ w = w' := by
 have hp := pickV_lt x h0
 have e1 : IntKind.u64.wrap x = x % 18446744073709551616 := by rw [IntKind.wrap_u64]
 have e2 : IntKind.u64.wrap (n : Int) = (n : Int) := IntWalk.u64_in _ ⟨by omega, by omega⟩
 have e3 : Int.tmod (x % 18446744073709551616) (n : Int) = (pickV x n : Int) := by
  unfold pickV
  obtain ⟨m, hm⟩ : ∃ m : Nat, x % 18446744073709551616 = (m : Int) := ⟨(x % 18446744073709551616).toNat, by omega⟩
  rw [hm]; simp
  rfl
 have e4 : IntKind.i64.wrap (pickV x n : Int) = (pickV x n : Int) := IntWalk.i64_in _ ⟨by omega, by omega⟩
 have e5 : ((n : Int) == 0) = false := by rw [beq_eq_false_iff_ne]; omega
 generalize pickV x n = p at *
 go_enter Tryz.func51, Tryz.ntmps51
 go_wp2
 go_ret
 exact ⟨rfl, rfl⟩
theorem wrap_uB (x : Int) (n : Nat) (h : x = (n : Int)) (hn : n < 18446744073709551616) : IntKind.u64.wrap x = (n : Int) := by subst h; rw [IntKind.wrap_u64]; omega
theorem mask_u64B (set n : Nat) (hs : set < 18446744073709551616) (hn : n <= 24) : bits BinOp.and IntKind.u64 (set : Int) (IntKind.u64.wrap (IntKind.u64.wrap (2 ^ n) - 1)) = ((set % 2 ^ n : Nat) : Int) := by
 have h1 : (2 : Nat) ^ n < 18446744073709551616 := Nat.pow_lt_pow_right (n := 64) (by decide) (by omega)
 rw [wrap_uB ((2 : Int) ^ n) (2 ^ n) (by simp) h1]
 have h0 : 0 < 2 ^ n := Nat.two_pow_pos n
 rw [wrap_uB (((2 ^ n : Nat) : Int) - 1) (2 ^ n - 1) (by omega) (by omega), bits_and_u64_nat set (2 ^ n - 1) hs (by omega), Nat.and_two_pow_sub_one_eq_mod]
structure FunSt (B : Nat) (W0 w : World) (s b : Nat) (O0 O : Nat -> Prop) (vars room : Nat) (n0 : Nat) (ns : List Nd) (al : List Int) (T : List Fam) (a : Option Addr) (cap : Nat) : Prop where
 fam : FamAt B w s b O vars room ns
 sems : Sems vars ns al T
 row : w.ownsRow B 3 1 (.slice a al.length cap) al.length (icells al)
 apart : ∀ k, (Value.slice a al.length cap).ownBlock = some k -> ¬ O k /\ k ≠ s /\ W0.heap.size <= k
 moves : Mv O0 O W0 w
 cnt : cntT vars ns + 180 <= n0 + 90 * al.length
def FunOut (B s b : Nat) (O : Nat -> Prop) (vars room : Nat) (n0 : Nat) (T : List Fam) (w : World) (e : Ending) (w' : World) : Prop :=
 ∃ ns al a c O', e = .returned (.slice a al.length c) /\ FunSt B w w' s b O O' vars room n0 ns al T a c
def StepOut (B s b : Nat) (O1 : Nat -> Prop) (vars room : Nat) (ns : List Nd) (g : Fam) (wr : World) (e : Ending) (w' : World) : Prop :=
 ∃ h ns' O', e = .returned (.tuple #[.int .i64 h, .nilIface]) /\ FamAt B w' s b O' vars room ns' /\ Mv O1 O' wr w' /\ Ext ns ns' /\ hasB ns' h = true /\ (∀ y, In ns' h y ↔ g y) /\ cntT vars ns' <= cntT vars ns + 90
section
variable {B s b : Nat} {O O1 : Nat -> Prop} {vars room : Nat} {ns ns0 : List Nd} {w wr X : World}
theorem cost_rr (hv6 : vars <= 6) (k : K) : cost (rr vars (-1)) k <= 90 := Nat.le_trans (cost_mono (show rr vars (-1) <= 4 by unfold rr; omega) k) (cost4 k)
theorem step_op {k : K} {a c : Int} {g : Fam} {F : FuncId} {args : Array Value} (hv6 : vars <= 6) (h : Calls Tryz.prog F args X (AskOut B s b O1 vars room k ns a c X)) (hg : ∀ y, opP k (In ns a) (In ns c) y ↔ g y) : Calls Tryz.prog F args X (StepOut B s b O1 vars room ns g X) :=
 h.mono fun e w' ⟨h, ns', O', h1, h2, h3, h4, h5, h6, h7⟩ => ⟨h, ns', O', h1, h2, h3, h4, h5, fun y => (h6 y).trans (hg y), by have := cost_rr hv6 k; omega⟩
theorem step_one {x : Nat} {g : Fam} {F : FuncId} {args : Array Value} (hv6 : vars <= 6) (h : Calls Tryz.prog F args X (OneOut B s b O1 vars room ns x X)) (hg : ∀ y, y = x ↔ g y) : Calls Tryz.prog F args X (StepOut B s b O1 vars room ns g X) :=
 h.mono fun e w' ⟨h, ns', O', h1, h2, h3, h4, h5, h6, h7⟩ => ⟨h, ns', O', h1, h2, h3, h4, h5, fun y => (h6 y).trans (hg y), by omega⟩
theorem families_any (h : FamAt B w s b O vars room ns0) (hv6 : vars <= 6) (xs : List Quad) (a : Option Addr) (cap : Nat) (hx : ∀ i, i < xs.length -> ∃ ad, a = some ad /\ QuadAt w ad i (qd xs i) /\ ¬ O ad.block) (hxl : xs.length <= 20) (hn0 : cntT vars ns0 = 0) (hrm : 2100 <= room) :
  Calls Tryz.prog 24 #[.pointer (some ⟨s, 0, none⟩), .int .i64 (vars : Int), .slice a xs.length cap] w (FunOut B s b O vars room 0 (famT vars [fun _ => False, fun y => y = 0] xs) w) := by
 have HX := Lib.hid hx
 have HSP := Lib.hid h
 have sl := h.space.slt
 have HT : Hid (∀ k, k < xs.length -> famT vars [fun _ => False, fun y => y = 0] (xs.take (k + 1)) = famT vars [fun _ => False, fun y => y = 0] (xs.take k) ++ [stepT vars (famT vars [fun _ => False, fun y => y = 0] (xs.take k)) (qd xs k)]) := fun k hk => by
  rw [List.take_succ_eq_append_getElem hk, famT_snoc]
  have : qd xs k = xs[k] := by unfold qd; simp [List.getD_eq_getElem?_getD, List.getElem?_eq_getElem hk]
  rw [this]
 have HST : Hid (FunSt B w (w.alloc (.cells #[.int .i64 0, .int .i64 1] 3)) s b O O vars room 0 ns0 [0, 1] [fun _ => False, fun y => y = 0] (some ⟨w.heap.size, 0, none⟩) 2) :=
  ⟨h.new (below_new w _), sems_start ns0, built_row w h.hB #[.int .i64 0, .int .i64 1] 3 (by simp [maxLen]), fun k hk => by
   have : w.heap.size = k := by simpa [Value.ownBlock] using hk
   subst this
   exact ⟨h.space.old (Nat.le_refl _), by omega, Nat.le_refl _⟩, Mv.of_below (below_new w _), by rw [hn0]; simp⟩
 clear hx h
 go_enter Tryz.func24, Tryz.ntmps24
 go_wp2_with fail
 go_loopw [7, 18] (fun alV i wr => ∃ (k : Nat) (ns : List Nd) (al : List Int) (O1 : Nat -> Prop) (a1 : Option Addr) (c1 : Nat), k <= xs.length /\ i = .int .i64 (k : Int) /\ alV = .slice a1 al.length c1 /\ FunSt B w wr s b O O1 vars room 0 ns al (famT vars [fun _ => False, fun y => y = 0] (xs.take k)) a1 c1)
  (fun _ i _ => xs.length - (intOf i).toNat)
 case atStart => exact ⟨0, ns0, [0, 1], O, _, _, Nat.zero_le _, rfl, rfl, HST.out⟩
 case round =>
  obtain ⟨k, ns, al, O1, a1, c1, hk, rfl, rfl, hF⟩ := hrel
  clear HST
  by_cases hlt : k < xs.length
  ·have hal : al.length = 2 + k := by
    have := hF.sems.len
    rw [famT_len, List.length_take, Nat.min_eq_left hk] at this
    simpa using this
   have HTK := Lib.hid (HT.out k hlt)
   generalize hTe : famT vars [fun _ => False, fun y => y = 0] (xs.take k) = T at *
   clear hTe
   have hsem := hF.sems
   have hcnt := hF.cnt
   obtain ⟨ad, rfl, hq0, hqO⟩ := HX.out k hlt
   have hq := hq0.kept hF.moves.kept hqO
   obtain ⟨hqb, q0, q1, q2, q3, qok⟩ := hq
   clear hq0 hqO
   generalize hqe : qd xs k = q at *
   obtain ⟨qa, qb, qc, qd'⟩ := q
   clear hqe
   simp only at q0 q1 q2 q3
   obtain ⟨ok0, ok1, ok2, ok3⟩ := qok
   simp only at ok0 ok1 ok2 ok3
   have i1 : (k : Int) < (xs.length : Int) := by omega
   have hne : 0 < al.length := by omega
   have hfl := hF.fam.len
   have hi64 : ∀ x ∈ al, I64 x := fun x hx => has_i64 (hsem.has x hx) (by omega)
   obtain ⟨ga, rfl, hIA, -⟩ := ints_of_row hF.row hne hi64
   obtain ⟨ha, sa⟩ := hsem.at hne qb
   obtain ⟨hb, sb⟩ := hsem.at hne qc
   have hfa := hF.fam
   have E0 : Hid (pickV qa 7 = 0 -> ∀ X, Below wr.heap.size wr X -> Calls Tryz.prog 23 #[.pointer (some ⟨s, 0, none⟩), .int .u64 (setN vars qb : Int)] X (StepOut B s b O1 vars room ns (stepT vars T ⟨qa, qb, qc, qd'⟩) X)) := fun e X hX => step_one hv6 (one_any (hfa.new hX) (setN vars qb) (Nat.mod_lt _ (Nat.two_pow_pos _)) (by omega)) (fun y => by unfold stepT; rw [e]; exact Iff.rfl)
   have E1 : Hid (pickV qa 7 = 1 -> ∀ X, Below wr.heap.size wr X -> Calls Tryz.prog 15 #[.pointer (some ⟨s, 0, none⟩), .int .i64 (alAt al qb), .int .i64 (alAt al qc)] X (StepOut B s b O1 vars room ns (stepT vars T ⟨qa, qb, qc, qd'⟩) X)) := fun e X hX => step_op hv6 (or_any (hfa.new hX) ha hb (by have := cost_rr hv6 .or; omega)) (fun y => by unfold stepT; rw [e]; exact opP_congr .or sa sb y)
   have E2 : Hid (pickV qa 7 = 2 -> ∀ X, Below wr.heap.size wr X -> Calls Tryz.prog 16 #[.pointer (some ⟨s, 0, none⟩), .int .i64 (alAt al qb), .int .i64 (alAt al qc)] X (StepOut B s b O1 vars room ns (stepT vars T ⟨qa, qb, qc, qd'⟩) X)) := fun e X hX => step_op hv6 (and_any (hfa.new hX) ha hb (by have := cost_rr hv6 .and; omega)) (fun y => by unfold stepT; rw [e]; exact opP_congr .and sa sb y)
   have E3 : Hid (pickV qa 7 = 3 -> ∀ X, Below wr.heap.size wr X -> Calls Tryz.prog 17 #[.pointer (some ⟨s, 0, none⟩), .int .i64 (alAt al qb), .int .i64 (alAt al qc)] X (StepOut B s b O1 vars room ns (stepT vars T ⟨qa, qb, qc, qd'⟩) X)) := fun e X hX => step_op hv6 (less_any (hfa.new hX) ha hb (by have := cost_rr hv6 .less; omega)) (fun y => by unfold stepT; rw [e]; exact opP_congr .less sa sb y)
   have E4 : Hid (pickV qa 7 = 4 -> ∀ X, Below wr.heap.size wr X -> Calls Tryz.prog 18 #[.pointer (some ⟨s, 0, none⟩), .int .i64 (alAt al qb), .int .i64 (alAt al qc)] X (StepOut B s b O1 vars room ns (stepT vars T ⟨qa, qb, qc, qd'⟩) X)) := fun e X hX => step_op hv6 (join_any (hfa.new hX) ha hb (by have := cost_rr hv6 .join; omega)) (fun y => by unfold stepT; rw [e]; exact opP_congr .join sa sb y)
   have E5 : Hid (pickV qa 7 = 5 -> ∀ X, Below wr.heap.size wr X -> Calls Tryz.prog 19 #[.pointer (some ⟨s, 0, none⟩), .int .i64 (alAt al qb), .int .i64 (alAt al qc)] X (StepOut B s b O1 vars room ns (stepT vars T ⟨qa, qb, qc, qd'⟩) X)) := fun e X hX => step_op hv6 (without_any (hfa.new hX) ha hb (by have := cost_rr hv6 .without; omega)) (fun y => by unfold stepT; rw [e]; exact opP_congr .without sa sb y)
   have E6 : Hid (pickV qa 7 = 6 -> ∀ X, Below wr.heap.size wr X -> Calls Tryz.prog 20 #[.pointer (some ⟨s, 0, none⟩), .int .i64 (alAt al qb)] X (StepOut B s b O1 vars room ns (stepT vars T ⟨qa, qb, qc, qd'⟩) X)) := fun e X hX => step_op hv6 (least_any (hfa.new hX) ha (by have := cost_rr hv6 .least; omega)) (fun y => by unfold stepT; rw [e]; exact opP_congr .least sa (fun y => ⟨fun h => in_zero y h, fun h => h.elim⟩) y)
   have HFS := Lib.hid hF
   unfold StepOut at E0 E1 E2 E3 E4 E5 E6
   generalize stepT vars T ⟨qa, qb, qc, qd'⟩ = g at *
   have P1 : Hid (∀ W, Calls Tryz.prog 51 #[.int .i64 qb, .int .i64 (al.length : Int)] W fun e w' => e = .returned (.int .i64 (pickV qb al.length : Int)) /\ W = w') := fun W => At_any qb al.length hne (by omega) W
   have P2 : Hid (∀ W, Calls Tryz.prog 51 #[.int .i64 qc, .int .i64 (al.length : Int)] W fun e w' => e = .returned (.int .i64 (pickV qc al.length : Int)) /\ W = w') := fun W => At_any qc al.length hne (by omega) W
   have P9 : Hid (∀ W, Calls Tryz.prog 51 #[.int .i64 qa, .int .i64 7] W fun e w' => e = .returned (.int .i64 (pickV qa 7 : Int)) /\ W = w') := fun W => At_any qa 7 (by omega) (by omega) W
   have t9 := pickV_lt qa (show 0 < 7 by omega)
   have l1 := pickV_lt qb hne
   have l2 := pickV_lt qc hne
   have g1 : wr.cell? ⟨ga, pickV qb al.length, none⟩ = some (.int .i64 (alAt al qb)) := by
    rw [hIA.cells _ l1]; unfold alAt; simp [List.getD_eq_getElem?_getD, List.getElem?_eq_getElem l1]
   have g2 : wr.cell? ⟨ga, pickV qc al.length, none⟩ = some (.int .i64 (alAt al qc)) := by
    rw [hIA.cells _ l2]; unfold alAt; simp [List.getD_eq_getElem?_getD, List.getElem?_eq_getElem l2]
   have gl := hIA.lt
   clear sa sb ha hb hfa hcnt
   generalize pickV qb al.length = p1 at *
   generalize pickV qc al.length = p2 at *
   generalize alAt al qb = ha at *
   generalize alAt al qc = hb at *
   generalize pickV qa 7 = t at *
   have j1 : (p1 : Int) < (al.length : Int) := by omega
   have j2 : (p2 : Int) < (al.length : Int) := by omega
   have hbx := below_new wr (.cells #[.int .i64 qa, .int .i64 qb, .int .i64 qc, .int .i64 qd'] 59)
   obtain ⟨x0, x1, x2, x3⟩ := cell4 wr (.int .i64 qa) (.int .i64 qb) (.int .i64 qc) (.int .i64 qd') 59
   have HBX := Lib.hid hbx
   have y1 := (hbx.cell (p := ⟨ga, p1, none⟩) gl).trans g1
   have y2 := (hbx.cell (p := ⟨ga, p2, none⟩) gl).trans g2
   have hal1 : al.length <= 22 := by omega
   have hal2 : 2 <= al.length := by omega
   have HAL := Lib.hid hal
   clear hF hsem hIA hi64 hbx g1 g2 l1 l2 hal
   go_wp2_with fail
   clear q0 q1 q2 q3
   generalize (wr.alloc (.cells #[.int .i64 qa, .int .i64 qb, .int .i64 qc, .int .i64 qd'] 59)) = W1 at *
   have SA : W1.drew.cell? ⟨wr.heap.size, 1, none⟩ = some (.int .i64 qb) /\ W1.drew.cell? ⟨wr.heap.size, 2, none⟩ = some (.int .i64 qc) /\ W1.drew.cell? ⟨ga, p1, none⟩ = some (.int .i64 ha) /\ W1.drew.cell? ⟨ga, p2, none⟩ = some (.int .i64 hb) := ⟨x1, x2, y1, y2⟩
   go_region_held3 (fun X => X.cell? ⟨wr.heap.size, 1, none⟩ = some (.int .i64 qb) /\ X.cell? ⟨wr.heap.size, 2, none⟩ = some (.int .i64 qc) /\ X.cell? ⟨ga, p1, none⟩ = some (.int .i64 ha) /\ X.cell? ⟨ga, p2, none⟩ = some (.int .i64 hb)) (exact SA)
    (first
     | (go_at_call 51; with_reducible refine (P1.out _).mono ?_; rintro e wz ⟨rfl, rfl⟩)
     | (go_at_call 51; with_reducible refine (P2.out _).mono ?_; rintro e wz ⟨rfl, rfl⟩))
   have HB2 := Lib.hid (HBX.out.drew)
   have y0 : W1.drew.cell? ⟨wr.heap.size, 0, none⟩ = some (.int .i64 qa) := x0
   have y1 : W1.drew.cell? ⟨wr.heap.size, 1, none⟩ = some (.int .i64 qb) := x1
   clear SA x0 x1 x2 x3 P1 P2
   generalize W1.drew = W3 at *
   go_upto_block 2 with (go_at_call 51; refine (P9.out _).mono ?_; rintro e wz ⟨rfl, rfl⟩)
   go_cut [13, 14] (fun h e wx => ∃ (hz : Int) (ns4 : List Nd) (O4 : Nat -> Prop), h = .int .i64 hz /\ e = .nilIface /\ FamAt B wx s b O4 vars room ns4 /\ Mv O1 O4 wr wx /\ Ext ns ns4 /\ hasB ns4 hz = true /\ (∀ y, In ns4 hz y ↔ g y) /\ cntT vars ns4 <= cntT vars ns + 90)
   case first =>
    obtain rfl | rfl | rfl | rfl | rfl | rfl | rfl : t = 0 \/ t = 1 \/ t = 2 \/ t = 3 \/ t = 4 \/ t = 5 \/ t = 6 := by omega
    ·have HE := Lib.hid (E0.out rfl)
     clear E0 E1 E2 E3 E4 E5 E6
     obtain ⟨mq, hmq⟩ : ∃ mq : Nat, qb % 18446744073709551616 = (mq : Int) := ⟨(qb % 18446744073709551616).toNat, by omega⟩
     have hmql : mq < 18446744073709551616 := by omega
     have hw1 : IntKind.u64.wrap qb = (mq : Int) := by rw [IntKind.wrap_u64]; exact hmq
     have hsn : (setN vars qb : Int) = ((mq % 2 ^ vars : Nat) : Int) := by unfold setN; rw [hmq]; rfl
     have hmask := mask_u64B mq vars hmql (by omega)
     rw [hsn] at HE
     generalize mq % 2 ^ vars = m2 at *
     clear hmq hsn hmql
     have SB : W3.drew.cell? ⟨wr.heap.size, 1, none⟩ = some (.int .i64 qb) := y1
     have ho1 : ¬ O1 wr.heap.size := HFS.out.fam.space.old (Nat.le_refl _)
     have bl3 : wr.heap.size < W3.drew.heap.size := (cells_at y1).lt
     have HE2 : Hid (Calls Tryz.prog 23 #[.pointer (some ⟨s, 0, none⟩), .int .u64 (m2 : Int)] W3.drew fun e w' => ∃ h ns' O', e = .returned (.tuple #[.int .i64 h, .nilIface]) /\ FamAt B w' s b O' vars room ns' /\ Mv O1 O' W3.drew w' /\ Ext ns ns' /\ hasB ns' h = true /\ (∀ y, In ns' h y ↔ g y) /\ cntT vars ns' <= cntT vars ns + 90) := HE.out _ HB2.out.drew
     clear HE
     go_wp2_with fail
     go_region_held3 (fun X => X.cell? ⟨wr.heap.size, 1, none⟩ = some (.int .i64 qb)) (first | exact SB | exact hsk)
      (first
       | (go_at_call 23; with_reducible refine HE2.out.mono ?_; rintro e w4 ⟨hz, ns4, O4, rfl, hf4, mv4, hO⟩; have hsk := (mv4.cell (a := ⟨wr.heap.size, 1, none⟩) bl3 ho1).trans SB))
     all_goals
      go_wp2_with fail
      go_meet
      case rel => exact ⟨hz, ns4, O4, rfl, rfl, hf4, (Mv.of_below HB2.out.drew).trans mv4, hO⟩
    ·have HE := Lib.hid (E1.out rfl)
     go_wp2_with fail
     refine (HE.out _ HB2.out).mono ?_
     rintro e w4 ⟨hz, ns4, O4, rfl, hf4, mv4, hO⟩
     go_wp2_with fail
     go_meet
     case rel => exact ⟨hz, ns4, O4, rfl, rfl, hf4, (Mv.of_below HB2.out).trans mv4, hO⟩
    ·have HE := Lib.hid (E2.out rfl)
     go_wp2_with fail
     refine (HE.out _ HB2.out).mono ?_
     rintro e w4 ⟨hz, ns4, O4, rfl, hf4, mv4, hO⟩
     go_wp2_with fail
     go_meet
     case rel => exact ⟨hz, ns4, O4, rfl, rfl, hf4, (Mv.of_below HB2.out).trans mv4, hO⟩
    ·have HE := Lib.hid (E3.out rfl)
     go_wp2_with fail
     refine (HE.out _ HB2.out).mono ?_
     rintro e w4 ⟨hz, ns4, O4, rfl, hf4, mv4, hO⟩
     go_wp2_with fail
     go_meet
     case rel => exact ⟨hz, ns4, O4, rfl, rfl, hf4, (Mv.of_below HB2.out).trans mv4, hO⟩
    ·have HE := Lib.hid (E4.out rfl)
     go_wp2_with fail
     refine (HE.out _ HB2.out).mono ?_
     rintro e w4 ⟨hz, ns4, O4, rfl, hf4, mv4, hO⟩
     go_wp2_with fail
     go_meet
     case rel => exact ⟨hz, ns4, O4, rfl, rfl, hf4, (Mv.of_below HB2.out).trans mv4, hO⟩
    ·have HE := Lib.hid (E5.out rfl)
     go_wp2_with fail
     refine (HE.out _ HB2.out).mono ?_
     rintro e w4 ⟨hz, ns4, O4, rfl, hf4, mv4, hO⟩
     go_wp2_with fail
     go_meet
     case rel => exact ⟨hz, ns4, O4, rfl, rfl, hf4, (Mv.of_below HB2.out).trans mv4, hO⟩
    ·have HE := Lib.hid (E6.out rfl)
     go_wp2_with fail
     refine (HE.out _ HB2.out).mono ?_
     rintro e w4 ⟨hz, ns4, O4, rfl, hf4, mv4, hO⟩
     go_wp2_with fail
     go_meet
     case rel => exact ⟨hz, ns4, O4, rfl, rfl, hf4, (Mv.of_below HB2.out).trans mv4, hO⟩
   case rest =>
    obtain ⟨hz, ns4, O2, rfl, rfl, hf4, mv4, hx4, hh4, hm4, hc4⟩ := hcut
    clear E0 E1 E2 E3 E4 E5 E6 P9 y0 y1
    have hF := HFS.out
    have hws := hF.moves.size
    have hBw := hF.fam.hB
    have hrowc := ownsRow_kept hF.row mv4.kept (fun j hj => (hF.apart j hj).1)
    obtain ⟨i0, hin, hz0, hz1, hz2⟩ := info_parts infoInt
    have hmvs := mv4.size
    have HRC := Lib.hid hrowc
    have hapc : ∀ j, (Value.slice (some ⟨ga, 0, none⟩) al.length c1).ownBlock = some j -> ¬ O2 j /\ j ≠ s /\ w.heap.size <= j := fun j hj =>
     ⟨mv4.beside (hF.row.lt j hj).2 (hF.apart j hj).1, (hF.apart j hj).2⟩
    have HAP := Lib.hid hapc
    have HMV := Lib.hid (hF.moves.trans mv4)
    have HF4 := Lib.hid hf4
    have HSE : Hid (Sems vars ns4 (al ++ [hz]) (T ++ [g])) := hF.sems.more hF.fam.good.ranked hx4 hh4 hm4
    have hcn : cntT vars ns4 + 180 <= 0 + 90 * (al ++ [hz]).length := by
     have := hF.cnt
     rw [List.length_append, List.length_singleton]; omega
    have HCN := Lib.hid hcn
    clear hcn
    clear hF hrowc hapc hf4 mv4 hx4 hm4 hc4 HSP
    have hBc : B <= wc.heap.size := Nat.le_trans hBw hmvs
    go_wp2_with (at_builtin; refine wpList_append_own_at _ rfl _ _ 24 rfl B 3 i0 (.int .i64 0) 1 8 Tryz.underlying24 hin hz0 hz1 hz2 rfl (by decide) _ _ _ rfl (HRC.out.alloc _) ⟨wc.heap.size, 0, none⟩ 1 1 [.int .i64 hz] rfl rfl ?c1 ?c2 ?c3 ?c4 ?c5 ?_)
    case c1 => exact cell_one_new _ _ _
    case c2 => intro u hu; simp at hu; subst hu; rfl
    case c3 => unfold maxLen; omega
    case c4 => omega
    case c5 => show B <= (World.alloc _ _).heap.size; simp; omega
    intro v7 w7 hown7 hgrow7 _ hloc7
    have hk7 : Kept (fun j => (Value.slice (some ⟨ga, 0, none⟩) al.length c1).ownBlock = some j) wc w7 := (Kept.alloc _ wc _).andThen (Kept.of_grown hgrow7 (fun i h => h)) (fun i h _ => h)
    have hke := hk7.size
    obtain ⟨a7, c7, rfl⟩ : ∃ a7 c7, v7 = .slice a7 (al.length + 1) c7 := by
     rcases hown7.2 with ⟨-, h2⟩ | ⟨g, cp, cur, h2, -⟩
     ·omega
     ·exact ⟨_, _, h2⟩
    have hal7 : (al ++ [hz]).length = al.length + 1 := by simp
    have hic : icells (al ++ [hz]) = icells al ++ [.int .i64 hz] := by simp [icells]
    rw [<- hal7, <- hic] at hown7
    have hl4 := HF4.out.len
    have hap7 : ∀ j, (Value.slice a7 (al.length + 1) c7).ownBlock = some j -> ¬ O2 j /\ j ≠ s /\ w.heap.size <= j := fun j hj => by
     rcases hloc7 with h | h
     ·exact HAP.out j (by rw [<- h]; exact hj)
     ·rw [h] at hj
      have ej : wc.heap.size + 1 = j := by simpa using hj
      exact ⟨fun ho => by have := (HF4.out.space.own j ho).2; omega, by have := HF4.out.space.slt; omega, by omega⟩
    have hs7 := HF4.out.space.kept hk7 (fun j ho hj => (HAP.out j hj).1 ho) (fun hj => (HAP.out s hj).2.1 rfl)
    have hf7 : FamAt B w7 s b O2 vars room ns4 := ⟨hs7, HF4.out.good, HF4.out.v24, HF4.out.rm, hl4, by omega⟩
    obtain ⟨g7, rfl, hI7, -⟩ := ints_of_row hown7 (by rw [hal7]; omega) (fun x hx => has_i64 (HSE.out.has x hx) (by omega))
    have HFR := free_any (cp := c7) hf7 g7 (al ++ [hz]) hI7 (by rw [hal7]; omega)
    rw [hal7] at HFR
    have HFR' := Lib.hid HFR
    have HM7 : Hid (Mv O O2 w w7) := ⟨HMV.out.kept.andThen hk7 (fun i hi hlt => by have := (HAP.out i hi).2.2; omega), fun j ho => HMV.out.own j ho⟩
    have HO7 := Lib.hid hown7
    have HAP7 := Lib.hid hap7
    have HF7 := Lib.hid hf7
    clear HFR hs7 hI7 hown7 hap7 hgrow7 hloc7 hk7 HMV HF4 HRC HAP hic hal7 hf7
    go_wp2_with fail
    refine HFR'.out.mono ?_
    rintro e w8 ⟨nf, rfl, O3, hs8, mv8⟩
    have hfin : FunSt B w w8 s b O O3 vars room 0 (swept ns4 (marksOf ns4 (al ++ [hz]))) (al ++ [hz]) (T ++ [g]) (some ⟨g7, 0, none⟩) c7 := by
     have hl : (al ++ [hz]).length = al.length + 1 := by simp
     refine ⟨⟨hs8, swept_good HF7.out.good _, HF7.out.v24, HF7.out.rm, by rw [swept_length]; exact hl4, Nat.le_trans HF7.out.hB mv8.size⟩, HSE.out.swept HF7.out.good, ?_, ?_, HM7.out.trans mv8, Nat.le_trans (Nat.add_le_add_right (swept_cntT HF7.out.v24 _ _) _) HCN.out⟩
     ·exact ownsRow_kept HO7.out mv8.kept (fun j hj => (HAP7.out j hj).1)
     ·rw [hl]
      exact fun j hj => ⟨mv8.beside (HO7.out.lt j hj).2 (HAP7.out j hj).1, (HAP7.out j hj).2⟩
    have HFIN := Lib.hid hfin
    clear hfin hs8 mv8 HFR' HM7 HO7 HAP7 HF7 HSE HCN
    go_wp2
    go_roundw
    case rel =>
     refine ⟨k + 1, swept ns4 (marksOf ns4 (al ++ [hz])), al ++ [hz], O3, some ⟨g7, 0, none⟩, c7, by omega, by go_num, ?_, ?_⟩
     ·show _ = Value.slice _ (al ++ [hz]).length _; rw [List.length_append]; rfl
     ·rw [HTK.out]; exact HFIN.out
    case measure => simp [intOf]; omega
  ·obtain rfl : k = xs.length := by omega
   rw [List.take_length] at hF
   go_wp2
   go_ret
   exact ⟨ns, al, _, _, _, rfl, hF⟩
end
end Go.Proofs.YtbklgjmkdhinpaaGreatDoor.Fm
