/- Functions. -/
import Derived.Test.YtcjjekhecjmaeaaGreatDoorBdFree
import Derived.Test.YtcjjekhecjmaeaaGreatDoorQuads
import Derived.Deep.CutBlock
set_option maxHeartbeats 8000000
set_option maxRecDepth 100000
namespace Go.Proofs.YtcjjekhecjmaeaaGreatDoor
open Go.RowKit Go.Maps
theorem cell4 (w : World) (a b c d : Value) (t : TypeId) : (w.alloc (.cells #[a, b, c, d] t)).cell? ⟨w.heap.size, 0, none⟩ = some a /\ (w.alloc (.cells #[a, b, c, d] t)).cell? ⟨w.heap.size, 1, none⟩ = some b /\ (w.alloc (.cells #[a, b, c, d] t)).cell? ⟨w.heap.size, 2, none⟩ = some c /\ (w.alloc (.cells #[a, b, c, d] t)).cell? ⟨w.heap.size, 3, none⟩ = some d := by simp
theorem ints_of_row {B n c : Nat} {w : World} {a : Option Addr} {al : List Int} (h : w.ownsRow B 3 1 (.slice a n c) al.length (icells al)) (hne : 0 < al.length) (hi : ∀ x ∈ al, I64 x) : ∃ g, a = some ⟨g, 0, none⟩ /\ IntsAt w g al /\ n = al.length := by
 rcases h.2 with ⟨-, e⟩ | ⟨g, cap, cur, e, h2, h3, h4⟩
 ·omega
 ·cases e
  have hlt := (h.lt g rfl).2
  refine ⟨g, rfl, ⟨hlt, fun i hi' => ?_, hi⟩, rfl⟩
  have := h.cellAt i (by omega)
  rwa [icells_at al i hi'] at this
structure FunSt (B : Nat) (W0 w : World) (s b : Nat) (O0 O : Nat -> Prop) (vars : Nat) (room : Int) (ns : List Nd) (al : List Int) (a : Option Addr) (cap : Nat) : Prop where
 space : SpaceAt B w s b O vars room ns
 row : w.ownsRow B 3 1 (.slice a al.length cap) al.length (icells al)
 apart : ∀ k, (Value.slice a al.length cap).ownBlock = some k -> ¬ O k /\ k ≠ s /\ W0.heap.size <= k
 moves : Moves O0 O W0 w
def FunOut (B s b : Nat) (O : Nat -> Prop) (vars : Nat) (room : Int) (r : List Nd × List Int) (w : World) (e : Ending) (w' : World) : Prop :=
 ∃ a c O', e = .returned (.slice a r.2.length c) /\ FunSt B w w' s b O O' vars room r.1 r.2 a c
section
variable {B s b : Nat} {O : Nat -> Prop} {vars : Nat} {room : Int} {ns0 : List Nd} {w : World}
theorem built_row (w : World) {B : Nat} (hB : B <= w.heap.size) (xs : Array Value) (e : TypeId) (hm : xs.size <= maxLen) : (w.alloc (.cells xs e)).ownsRow B e 1 (.slice (some ⟨w.heap.size, 0, none⟩) xs.size xs.size) xs.size xs.toList := by
 refine ⟨by simp, .inr ⟨w.heap.size, xs.size, xs, rfl, hB, (MapKept.heap_alloc w _).1, Nat.le_refl _, hm, by simp, ?_⟩⟩
 rw [Nat.mul_one, List.take_of_length_le (by simp)]
def OpDoes (B s b : Nat) (O : Nat -> Prop) (vars : Nat) (room : Int) (r : List Nd × Int) (wr : World) (F : FuncId) (args : Array Value) : Prop :=
 ∀ X, Below wr.heap.size wr X -> Calls Tryz.prog F args X fun e w' => e = .returned (.tuple #[.int .i64 r.2, .nilIface]) /\ ∃ O', SpaceAt B w' s b O' vars room r.1 /\ Moves O O' wr w'
theorem opDoes {r r' : List Nd × Int} {wr : World} {F : FuncId} {args : Array Value} (e : r = r') (h : ∀ X, Below wr.heap.size wr X -> Calls Tryz.prog F args X (OpOut B s b O vars room r X)) : OpDoes B s b O vars room r' wr F args := by
 subst e
 exact fun X hX => (h X hX).mono fun e w' hO => hO.later hX
theorem functions_any (h : SpaceAt B w s b O vars room ns0) (hg : Good vars ns0) (hv0 : 0 < vars) (hv6 : vars <= 6) (hroom : room = 4000) (xs : List Quad) (a : Option Addr) (cap : Nat) (hx : ∀ i, i < xs.length -> ∃ ad, a = some ad /\ QuadAt w ad i (qd xs i) /\ ¬ O ad.block) (hxl : xs.length <= 25) (hlen : ns0.length + 64 * xs.length + 64 <= 4000) (hB : B <= w.heap.size) :
  Calls Tryz.prog 32 #[.pointer (some ⟨s, 0, none⟩), .slice a xs.length cap] w (FunOut B s b O vars room (funF vars (ns0, [0, 1]) xs) w) := by
 subst hroom
 have p6 : 2 ^ vars <= 64 := Nat.pow_le_pow_right (n := 2) (by omega) hv6
 have HX := Lib.hid hx
 have HG := Lib.hid hg
 have HSP := Lib.hid h
 have sl := h.slt
 have HI : Hid (∀ k, k <= xs.length -> Sems vars (funF vars (ns0, [0, 1]) (xs.take k)).1 (funF vars (ns0, [0, 1]) (xs.take k)).2 (funT vars [fun _ => false, fun _ => true] (xs.take k)) /\ (funF vars (ns0, [0, 1]) (xs.take k)).1.length <= ns0.length + 63 * k /\ (funF vars (ns0, [0, 1]) (xs.take k)).2.length = 2 + k) := fun k hk => by
  have := fun_ok hv0 hv6 (xs.take k) ns0 [0, 1] _ (sems_start hg) (by simp) (by rw [List.length_take]; omega)
  rw [List.length_take, Nat.min_eq_left hk] at this
  exact this
 have HT : Hid (∀ k, k < xs.length -> funF vars (ns0, [0, 1]) (xs.take (k + 1)) = roundF vars (funF vars (ns0, [0, 1]) (xs.take k)) (qd xs k)) := fun k hk => by
  rw [List.take_succ_eq_append_getElem hk, funF_snoc]
  congr 1
  unfold qd; simp [List.getD_eq_getElem?_getD, List.getElem?_eq_getElem hk]
 have HST : Hid (FunSt B w (w.alloc (.cells #[.int .i64 0, .int .i64 1] 3)) s b O O vars 4000 ns0 [0, 1] (some ⟨w.heap.size, 0, none⟩) 2) :=
  ⟨h.new (below_new w _), built_row w hB #[.int .i64 0, .int .i64 1] 3 (by simp [maxLen]), fun k hk => by
   have : w.heap.size = k := by simpa [Value.ownBlock] using hk
   subst this
   exact ⟨h.old (Nat.le_refl _), by omega, Nat.le_refl _⟩, Moves.of_below O (below_new w _)⟩
 clear hx hg h
 go_enter Tryz.func32, Tryz.ntmps32
 go_wp2_with fail
 go_loopw [5, 18] (fun alV i wr => ∃ (k : Nat) (O1 : Nat -> Prop) (a1 : Option Addr) (c1 : Nat), k <= xs.length /\ i = .int .i64 (k : Int) /\ alV = .slice a1 (funF vars (ns0, [0, 1]) (xs.take k)).2.length c1 /\ FunSt B w wr s b O O1 vars 4000 (funF vars (ns0, [0, 1]) (xs.take k)).1 (funF vars (ns0, [0, 1]) (xs.take k)).2 a1 c1)
  (fun _ i _ => xs.length - (intOf i).toNat)
 case atStart => exact ⟨0, O, _, _, Nat.zero_le _, rfl, rfl, HST.out⟩
 case round =>
  obtain ⟨k, O1, a1, c1, hk, rfl, rfl, hF⟩ := hrel
  clear HST
  by_cases hlt : k < xs.length
  ·obtain ⟨hsem, hnl, hal⟩ := HI.out k hk
   have HTK := Lib.hid (HT.out k hlt)
   generalize hst : funF vars (ns0, [0, 1]) (xs.take k) = stt at *
   obtain ⟨ns, al⟩ := stt
   simp only at hF hsem hnl hal
   clear hst
   generalize funT vars [fun _ => false, fun _ => true] (xs.take k) = T at *
   obtain ⟨ad, rfl, hq0, hqO⟩ := HX.out k hlt
   have hq := hq0.kept hF.moves.kept hqO
   obtain ⟨hqb, q0, q1, q2, q3, qok⟩ := hq
   clear hq0 hqO
   generalize hqe : qd xs k = q at *
   obtain ⟨qa, qb, qc, qd'⟩ := q
   clear hqe
   simp only at q0 q1 q2 q3
   obtain ⟨ok0, ok1, ok2, ok3⟩ := qok
   simp only at ok0 ok1 ok2 ok3
   have i1 : (k : Int) < (xs.length : Int) := by omega
   have hne : 0 < al.length := by omega
   have hi64 : ∀ x ∈ al, I64 x := fun x hx => has_i64 (hsem.has x hx) (by omega)
   obtain ⟨ga, rfl, hIA, -⟩ := ints_of_row hF.row hne hi64
   have r := step_ok hsem hne hv0 (by omega) (by omega) ⟨qa, qb, qc, qd'⟩
   have hsem' := hsem
   obtain ⟨ha, -⟩ := hsem.at hne qb
   obtain ⟨hb, -⟩ := hsem.at hne qc
   obtain ⟨hc, -⟩ := hsem.at hne qd'
   have hgd := hsem.good
   have pv1 := pickV_lt qb hv0
   have pv2 := pickV_lt qc hv0
   have hR : ∀ X, Below wr.heap.size wr X -> Room B X vars 4000 ns := fun X hX => ⟨by omega, by omega, by omega, by have := hX.size; have := hF.moves.size; omega⟩
   obtain ⟨rr, hrr⟩ : ∃ rr, stepF vars ns al ⟨qa, qb, qc, qd'⟩ = rr := ⟨_, rfl⟩
   have E0 : Hid (pickV qa 9 = 0 -> ∀ X, Below wr.heap.size wr X -> Calls Tryz.prog 58 #[.pointer (some ⟨s, 0, none⟩), .int .i64 (pickV qb vars : Int), .bool (oddB qc)] X fun e w' => e = .returned (.tuple #[.int .i64 rr.2, .nilIface]) /\ ∃ O', SpaceAt B w' s b O' vars 4000 rr.1 /\ Moves O1 O' X w') := fun e X hX => by
    have e' : litF ns (pickV qb vars : Int) (oddB qc) = rr := by rw [<- hrr]; unfold stepF; rw [e]; rfl
    rw [<- e']
    exact lit_op (hF.space.new hX) (hR X hX) _ _ (by omega) (by omega)
   have E1 : Hid (pickV qa 9 = 1 -> OpDoes B s b O1 vars 4000 rr wr 63 #[.pointer (some ⟨s, 0, none⟩), .int .i64 (alAt al qb)]) := fun e => opDoes (by rw [<- hrr]; unfold stepF; rw [e]; rfl) fun X hX => not_op (hF.space.new hX) hgd (hR X hX) _ ha
   have E2 : Hid (pickV qa 9 = 2 -> OpDoes B s b O1 vars 4000 rr wr 64 #[.pointer (some ⟨s, 0, none⟩), .int .i64 (alAt al qb), .int .i64 (alAt al qc)]) := fun e => opDoes (by rw [<- hrr]; unfold stepF; rw [e]; rfl) fun X hX => and_op (hF.space.new hX) hgd (hR X hX) _ _ ha hb
   have E3 : Hid (pickV qa 9 = 3 -> OpDoes B s b O1 vars 4000 rr wr 65 #[.pointer (some ⟨s, 0, none⟩), .int .i64 (alAt al qb), .int .i64 (alAt al qc)]) := fun e => opDoes (by rw [<- hrr]; unfold stepF; rw [e]; rfl) fun X hX => or_op (hF.space.new hX) hgd (hR X hX) _ _ ha hb
   have E4 : Hid (pickV qa 9 = 4 -> OpDoes B s b O1 vars 4000 rr wr 66 #[.pointer (some ⟨s, 0, none⟩), .int .i64 (alAt al qb), .int .i64 (alAt al qc)]) := fun e => opDoes (by rw [<- hrr]; unfold stepF; rw [e]; rfl) fun X hX => xor_op (hF.space.new hX) hgd (hR X hX) _ _ ha hb
   have E5 : Hid (pickV qa 9 = 5 -> OpDoes B s b O1 vars 4000 rr wr 67 #[.pointer (some ⟨s, 0, none⟩), .int .i64 (alAt al qb), .int .i64 (alAt al qc), .int .i64 (alAt al qd')]) := fun e => opDoes (by rw [<- hrr]; unfold stepF; rw [e]; rfl) fun X hX => ite_op (hF.space.new hX) hgd (hR X hX) _ _ _ ha hb hc
   have E6 : Hid (pickV qa 9 = 6 -> OpDoes B s b O1 vars 4000 rr wr 68 #[.pointer (some ⟨s, 0, none⟩), .int .i64 (alAt al qb), .int .i64 (pickV qc vars : Int), .bool (oddB qd')]) := fun e => opDoes (by rw [<- hrr]; unfold stepF; rw [e]; rfl) fun X hX => set_op (hF.space.new hX) hgd (hR X hX) _ _ ha (by omega) (by omega)
   have E7 : Hid (pickV qa 9 = 7 -> OpDoes B s b O1 vars 4000 rr wr 69 #[.pointer (some ⟨s, 0, none⟩), .int .i64 (alAt al qb), .int .i64 (pickV qc vars : Int)]) := fun e => opDoes (by rw [<- hrr]; unfold stepF; rw [e]; rfl) fun X hX => some_op (hF.space.new hX) hgd (hR X hX) _ ha (by omega) (by omega)
   have E8 : Hid (pickV qa 9 = 8 -> OpDoes B s b O1 vars 4000 rr wr 70 #[.pointer (some ⟨s, 0, none⟩), .int .i64 (alAt al qb), .int .i64 (pickV qc vars : Int)]) := fun e => opDoes (by rw [<- hrr]; unfold stepF; rw [e]; rfl) fun X hX => each_op (hF.space.new hX) hgd (hR X hX) _ ha (by omega) (by omega)
   rw [hrr] at r
   have hround : roundF vars (ns, al) ⟨qa, qb, qc, qd'⟩ = (swept rr.1 (marksOf rr.1 (al ++ [rr.2])), al ++ [rr.2]) := by rw [<- hrr]; rfl
   rw [hround] at HTK
   have HRR := Lib.hid r
   have HSE := Lib.hid hsem
   have HFS := Lib.hid hF
   have hrl : rr.1.length <= 3999 := by have := r.len; omega
   clear hround hrr r hsem' hR ha hb hc hgd HT HI HX
   have P1 : Hid (∀ W, Calls Tryz.prog 62 #[.int .i64 qb, .int .i64 (al.length : Int)] W fun e w' => e = .returned (.int .i64 (pickV qb al.length : Int)) /\ W = w') := fun W => At_any qb al.length hne (by omega) W
   have P2 : Hid (∀ W, Calls Tryz.prog 62 #[.int .i64 qc, .int .i64 (al.length : Int)] W fun e w' => e = .returned (.int .i64 (pickV qc al.length : Int)) /\ W = w') := fun W => At_any qc al.length hne (by omega) W
   have P3 : Hid (∀ W, Calls Tryz.prog 62 #[.int .i64 qd', .int .i64 (al.length : Int)] W fun e w' => e = .returned (.int .i64 (pickV qd' al.length : Int)) /\ W = w') := fun W => At_any qd' al.length hne (by omega) W
   have P4 : Hid (∀ W, Calls Tryz.prog 62 #[.int .i64 qc, .int .i64 (vars : Int)] W fun e w' => e = .returned (.int .i64 (pickV qc vars : Int)) /\ W = w') := fun W => At_any qc vars hv0 (by omega) W
   have P5 : Hid (∀ W, Calls Tryz.prog 62 #[.int .i64 qb, .int .i64 (vars : Int)] W fun e w' => e = .returned (.int .i64 (pickV qb vars : Int)) /\ W = w') := fun W => At_any qb vars hv0 (by omega) W
   have P9 : Hid (∀ W, Calls Tryz.prog 62 #[.int .i64 qa, .int .i64 9] W fun e w' => e = .returned (.int .i64 (pickV qa 9 : Int)) /\ W = w') := fun W => At_any qa 9 (by omega) (by omega) W
   have PV : Hid (∀ X, Below wr.heap.size wr X -> Calls Tryz.prog 27 #[.pointer (some ⟨s, 0, none⟩)] X fun e w' => e = .returned (.int .i64 (vars : Int)) /\ X = w') := fun X hX => vars_any (hF.space.new hX)
   have t9 := pickV_lt qa (show 0 < 9 by omega)
   have l1 := pickV_lt qb hne
   have l2 := pickV_lt qc hne
   have l3 := pickV_lt qd' hne
   have g1 : wr.cell? ⟨ga, pickV qb al.length, none⟩ = some (.int .i64 (alAt al qb)) := by
    rw [hIA.cells _ l1]; unfold alAt; simp [List.getD_eq_getElem?_getD, List.getElem?_eq_getElem l1]
   have g2 : wr.cell? ⟨ga, pickV qc al.length, none⟩ = some (.int .i64 (alAt al qc)) := by
    rw [hIA.cells _ l2]; unfold alAt; simp [List.getD_eq_getElem?_getD, List.getElem?_eq_getElem l2]
   have g3 : wr.cell? ⟨ga, pickV qd' al.length, none⟩ = some (.int .i64 (alAt al qd')) := by
    rw [hIA.cells _ l3]; unfold alAt; simp [List.getD_eq_getElem?_getD, List.getElem?_eq_getElem l3]
   have gl := hIA.lt
   generalize pickV qb al.length = p1 at *
   generalize pickV qc al.length = p2 at *
   generalize pickV qd' al.length = p3 at *
   generalize alAt al qb = ha at *
   generalize alAt al qc = hb at *
   generalize alAt al qd' = hc at *
   generalize pickV qc vars = v2 at *
   generalize pickV qb vars = v1 at *
   generalize pickV qa 9 = t at *
   have j1 : (p1 : Int) < (al.length : Int) := by omega
   have j2 : (p2 : Int) < (al.length : Int) := by omega
   have j3 : (p3 : Int) < (al.length : Int) := by omega
   have hbx := below_new wr (.cells #[.int .i64 qa, .int .i64 qb, .int .i64 qc, .int .i64 qd'] 79)
   obtain ⟨x0, x1, x2, x3⟩ := cell4 wr (.int .i64 qa) (.int .i64 qb) (.int .i64 qc) (.int .i64 qd') 79
   have bl : wr.heap.size < (wr.alloc (.cells #[.int .i64 qa, .int .i64 qb, .int .i64 qc, .int .i64 qd'] 79)).heap.size := by simp
   have HBX := Lib.hid hbx
   have y1 := (hbx.cell (p := ⟨ga, p1, none⟩) gl).trans g1
   have y2 := (hbx.cell (p := ⟨ga, p2, none⟩) gl).trans g2
   have y3 := (hbx.cell (p := ⟨ga, p3, none⟩) gl).trans g3
   have hal1 : al.length <= 27 := by omega
   have hal2 : 2 <= al.length := by omega
   have HAL := Lib.hid hal
   clear hF hsem hIA hi64 hbx g1 g2 g3 l1 l2 l3 hal
   go_wp2_with fail
   clear q0 q1 q2 q3
   generalize (wr.alloc (.cells #[.int .i64 qa, .int .i64 qb, .int .i64 qc, .int .i64 qd'] 79)) = W1 at *
   have SA : W1.drew.cell? ⟨wr.heap.size, 1, none⟩ = some (.int .i64 qb) /\ W1.drew.cell? ⟨wr.heap.size, 2, none⟩ = some (.int .i64 qc) /\ W1.drew.cell? ⟨wr.heap.size, 3, none⟩ = some (.int .i64 qd') /\ W1.drew.cell? ⟨ga, p1, none⟩ = some (.int .i64 ha) /\ W1.drew.cell? ⟨ga, p2, none⟩ = some (.int .i64 hb) /\ W1.drew.cell? ⟨ga, p3, none⟩ = some (.int .i64 hc) := ⟨x1, x2, x3, y1, y2, y3⟩
   go_region_held3 (fun X => X.cell? ⟨wr.heap.size, 1, none⟩ = some (.int .i64 qb) /\ X.cell? ⟨wr.heap.size, 2, none⟩ = some (.int .i64 qc) /\ X.cell? ⟨wr.heap.size, 3, none⟩ = some (.int .i64 qd') /\ X.cell? ⟨ga, p1, none⟩ = some (.int .i64 ha) /\ X.cell? ⟨ga, p2, none⟩ = some (.int .i64 hb) /\ X.cell? ⟨ga, p3, none⟩ = some (.int .i64 hc)) (exact SA)
    (first
     | (go_at_call 62; with_reducible refine (P1.out _).mono ?_; rintro e wz ⟨rfl, rfl⟩)
     | (go_at_call 62; with_reducible refine (P2.out _).mono ?_; rintro e wz ⟨rfl, rfl⟩)
     | (go_at_call 62; with_reducible refine (P3.out _).mono ?_; rintro e wz ⟨rfl, rfl⟩))
   have HB1 := Lib.hid (HBX.out.drew)
   have bl1 : wr.heap.size < W1.drew.heap.size := bl
   have z0 : W1.drew.cell? ⟨wr.heap.size, 0, none⟩ = some (.int .i64 qa) := x0
   have z1 : W1.drew.cell? ⟨wr.heap.size, 1, none⟩ = some (.int .i64 qb) := x1
   have z2 : W1.drew.cell? ⟨wr.heap.size, 2, none⟩ = some (.int .i64 qc) := x2
   have z3 : W1.drew.cell? ⟨wr.heap.size, 3, none⟩ = some (.int .i64 qd') := x3
   clear SA x0 x1 x2 x3 y1 y2 y3 P1 P2 P3
   generalize W1.drew = W2 at *
   go_wp2_with fail
   have SB : W2.drew.cell? ⟨wr.heap.size, 2, none⟩ = some (.int .i64 qc) := z2
   go_region_held3 (fun X => X.cell? ⟨wr.heap.size, 2, none⟩ = some (.int .i64 qc)) (exact SB)
    (first
     | (go_at_call 27; with_reducible refine (PV.out _ HB1.out.drew).mono ?_; rintro e wz ⟨rfl, rfl⟩)
     | (go_at_call 62; with_reducible refine (P4.out _).mono ?_; rintro e wz ⟨rfl, rfl⟩))
   have HB2 := Lib.hid (HB1.out.drew)
   have bl2 : wr.heap.size < W2.drew.heap.size := bl1
   have y0 : W2.drew.cell? ⟨wr.heap.size, 0, none⟩ = some (.int .i64 qa) := z0
   have y1 : W2.drew.cell? ⟨wr.heap.size, 1, none⟩ = some (.int .i64 qb) := z1
   have y2 : W2.drew.cell? ⟨wr.heap.size, 2, none⟩ = some (.int .i64 qc) := z2
   have y3 : W2.drew.cell? ⟨wr.heap.size, 3, none⟩ = some (.int .i64 qd') := z3
   clear SB z0 z1 z2 z3 P4 HB1
   generalize W2.drew = W3 at *
   go_upto_block 2 with (go_at_call 62; refine (P9.out _).mono ?_; rintro e wz ⟨rfl, rfl⟩)
   go_cut [13, 14] (fun h e wx => h = .int .i64 rr.2 /\ e = .nilIface /\ ∃ O', SpaceAt B wx s b O' vars 4000 rr.1 /\ Moves O1 O' wr wx)
   case first =>
    have HB3 := HB2
    obtain rfl | rfl | rfl | rfl | rfl | rfl | rfl | rfl | rfl : t = 0 \/ t = 1 \/ t = 2 \/ t = 3 \/ t = 4 \/ t = 5 \/ t = 6 \/ t = 7 \/ t = 8 := by omega
    ·have HE := Lib.hid (E0.out rfl)
     unfold oddB at HE
     have SB : W3.drew.cell? ⟨wr.heap.size, 1, none⟩ = some (.int .i64 qb) /\ W3.drew.cell? ⟨wr.heap.size, 2, none⟩ = some (.int .i64 qc) := ⟨y1, y2⟩
     have ho1 : ¬ O1 wr.heap.size := HFS.out.space.old (Nat.le_refl _)
     have bl3 : wr.heap.size < W3.drew.heap.size := bl2
     have SK : Hid (∀ O' w4, Moves O1 O' W3.drew w4 -> (w4.cell? ⟨wr.heap.size, 1, none⟩ = some (.int .i64 qb) /\ w4.cell? ⟨wr.heap.size, 2, none⟩ = some (.int .i64 qc)) /\ Moves O1 O' wr w4) := fun O' w4 hm =>
      ⟨⟨(hm.cell (a := ⟨wr.heap.size, 1, none⟩) bl3 ho1).trans y1, (hm.cell (a := ⟨wr.heap.size, 2, none⟩) bl3 ho1).trans y2⟩, (Moves.of_below O1 HB3.out.drew).trans hm⟩
     go_wp2_with fail
     go_region_held3 (fun X => X.cell? ⟨wr.heap.size, 1, none⟩ = some (.int .i64 qb) /\ X.cell? ⟨wr.heap.size, 2, none⟩ = some (.int .i64 qc)) (first | exact SB | exact hsk.1)
      (first
       | (go_at_call 27; with_reducible refine (PV.out _ HB3.out.drew).mono ?_; rintro e wz ⟨rfl, rfl⟩)
       | (go_at_call 62; with_reducible refine (P5.out _).mono ?_; rintro e wz ⟨rfl, rfl⟩)
       | (go_at_call 58; with_reducible refine (HE.out _ HB3.out.drew).mono ?_; rintro e w4 ⟨rfl, O4, hs4, mv4⟩; have hsk := SK.out _ _ mv4))
     all_goals
      go_wp2_with fail
      go_meet
      case rel => exact ⟨rfl, rfl, O4, hs4, hsk.2⟩
    ·have HE := Lib.hid (E1.out rfl)
     go_wp2_with fail
     refine (HE.out _ HB3.out).mono ?_
     rintro e w4 ⟨rfl, hO⟩
     go_wp2_with fail
     go_meet
     case rel => exact ⟨rfl, rfl, hO⟩
    ·have HE := Lib.hid (E2.out rfl)
     go_wp2_with fail
     refine (HE.out _ HB3.out).mono ?_
     rintro e w4 ⟨rfl, hO⟩
     go_wp2_with fail
     go_meet
     case rel => exact ⟨rfl, rfl, hO⟩
    ·have HE := Lib.hid (E3.out rfl)
     go_wp2_with fail
     refine (HE.out _ HB3.out).mono ?_
     rintro e w4 ⟨rfl, hO⟩
     go_wp2_with fail
     go_meet
     case rel => exact ⟨rfl, rfl, hO⟩
    ·have HE := Lib.hid (E4.out rfl)
     go_wp2_with fail
     refine (HE.out _ HB3.out).mono ?_
     rintro e w4 ⟨rfl, hO⟩
     go_wp2_with fail
     go_meet
     case rel => exact ⟨rfl, rfl, hO⟩
    ·have HE := Lib.hid (E5.out rfl)
     go_wp2_with fail
     refine (HE.out _ HB3.out).mono ?_
     rintro e w4 ⟨rfl, hO⟩
     go_wp2_with fail
     go_meet
     case rel => exact ⟨rfl, rfl, hO⟩
    ·have HE := Lib.hid (E6.out rfl)
     go_wp2_with fail
     refine (HE.out _ HB3.out).mono ?_
     rintro e w4 ⟨rfl, hO⟩
     go_wp2_with fail
     go_meet
     case rel => exact ⟨rfl, rfl, hO⟩
    ·have HE := Lib.hid (E7.out rfl)
     go_wp2_with fail
     refine (HE.out _ HB3.out).mono ?_
     rintro e w4 ⟨rfl, hO⟩
     go_wp2_with fail
     go_meet
     case rel => exact ⟨rfl, rfl, hO⟩
    ·have HE := Lib.hid (E8.out rfl)
     go_wp2_with fail
     refine (HE.out _ HB3.out).mono ?_
     rintro e w4 ⟨rfl, hO⟩
     go_wp2_with fail
     go_meet
     case rel => exact ⟨rfl, rfl, hO⟩
   case rest =>
    obtain ⟨rfl, rfl, O2, hs4, mv4⟩ := hcut
    clear E0 E1 E2 E3 E4 E5 E6 E7 E8 P5 P9 PV y0 y1 y2 y3
    have hF := HFS.out
    have hws := hF.moves.size
    have hrowc := ownsRow_kept hF.row mv4.kept (fun j hj => (hF.apart j hj).1)
    obtain ⟨i0, hin, hz0, hz1, hz2⟩ := info_parts infoInt
    have hmvs := mv4.size
    have HRC := Lib.hid hrowc
    have hapc : ∀ j, (Value.slice (some ⟨ga, 0, none⟩) al.length c1).ownBlock = some j -> ¬ O2 j /\ j ≠ s /\ w.heap.size <= j := fun j hj =>
     ⟨mv4.beside (hF.row.lt j hj).2 (hF.apart j hj).1, (hF.apart j hj).2⟩
    have HAP := Lib.hid hapc
    have HMV := Lib.hid (hF.moves.trans mv4)
    have HS4 := Lib.hid hs4
    clear hF hrowc hapc hs4 mv4 HSP
    go_wp2_with (at_builtin; refine wpList_append_own_at _ rfl _ _ 24 rfl B 3 i0 (.int .i64 0) 1 8 Tryz.underlying24 hin hz0 hz1 hz2 rfl (by decide) _ _ _ rfl (HRC.out.alloc _) ⟨wc.heap.size, 0, none⟩ 1 1 [.int .i64 rr.2] rfl rfl ?c1 ?c2 ?c3 ?c4 ?c5 ?_)
    case c1 => exact cell_one_new _ _ _
    case c2 => intro u hu; simp at hu; subst hu; rfl
    case c3 => unfold maxLen; omega
    case c4 => omega
    case c5 => show B <= (World.alloc _ _).heap.size; simp; omega
    intro v7 w7 hown7 hgrow7 _ hloc7
    have hk7 : Kept (fun j => (Value.slice (some ⟨ga, 0, none⟩) al.length c1).ownBlock = some j) wc w7 := (Kept.alloc _ wc _).andThen (Kept.of_grown hgrow7 (fun i h => h)) (fun i h _ => h)
    have hke := hk7.size
    obtain ⟨a7, c7, rfl⟩ : ∃ a7 c7, v7 = .slice a7 (al.length + 1) c7 := by
     rcases hown7.2 with ⟨-, h2⟩ | ⟨g, cp, cur, h2, -⟩
     ·omega
     ·exact ⟨_, _, h2⟩
    have hrl7 : rr.1.length <= 90000 := by omega
    have hal7 : (al ++ [rr.2]).length = al.length + 1 := by simp
    have hic : icells (al ++ [rr.2]) = icells al ++ [.int .i64 rr.2] := by simp [icells]
    rw [<- hal7, <- hic] at hown7
    have hgood := HRR.out.good
    have hhas : ∀ x ∈ al ++ [rr.2], hasB rr.1 x = true := fun x hx => by
     rcases List.mem_append.1 hx with hx | hx
     ·exact HRR.out.ext.has x (HSE.out.has x hx)
     ·rw [List.mem_singleton] at hx; subst hx; exact HRR.out.has
    have hap7 : ∀ j, (Value.slice a7 (al.length + 1) c7).ownBlock = some j -> ¬ O2 j /\ j ≠ s /\ w.heap.size <= j := fun j hj => by
     rcases hloc7 with h | h
     ·exact HAP.out j (by rw [<- h]; exact hj)
     ·rw [h] at hj
      have ej : wc.heap.size + 1 = j := by simpa using hj
      exact ⟨fun ho => by have := (HS4.out.own j ho).2; omega, by have := HS4.out.slt; omega, by omega⟩
    have hs7 := HS4.out.kept hk7 (fun j ho hj => (HAP.out j hj).1 ho) (fun hj => (HAP.out s hj).2.1 rfl)
    obtain ⟨g7, rfl, hI7, -⟩ := ints_of_row hown7 (by rw [hal7]; omega) (fun x hx => has_i64 (hhas x hx) (by omega))
    have HFR := free_op (cp := c7) hs7 hgood.ranked hrl7 (by omega) g7 (al ++ [rr.2]) hI7 (by rw [hal7]; omega)
    rw [hal7] at HFR
    have HFR' := Lib.hid HFR
    have HM7 : Hid (Moves O O2 w w7) := ⟨HMV.out.kept.andThen hk7 (fun i hi hlt => by have := (HAP.out i hi).2.2; omega), fun j ho => HMV.out.own j ho⟩
    have HO7 := Lib.hid hown7
    have HAP7 := Lib.hid hap7
    clear HFR hs7 hI7 hown7 hap7 hgrow7 hloc7 hk7 HMV HS4 HRC HAP hgood hhas hic hal7
    go_wp2_with fail
    refine HFR'.out.mono ?_
    rintro e w8 ⟨nf, rfl, O3, hs8, mv8⟩
    have hfin : FunSt B w w8 s b O O3 vars 4000 (swept rr.1 (marksOf rr.1 (al ++ [rr.2]))) (al ++ [rr.2]) (some ⟨g7, 0, none⟩) c7 := by
     have hl : (al ++ [rr.2]).length = al.length + 1 := by simp
     refine ⟨hs8, ?_, ?_, HM7.out.trans mv8⟩
     ·exact ownsRow_kept HO7.out mv8.kept (fun j hj => (HAP7.out j hj).1)
     ·rw [hl]
      exact fun j hj => ⟨mv8.beside (HO7.out.lt j hj).2 (HAP7.out j hj).1, (HAP7.out j hj).2⟩
    have HFIN := Lib.hid hfin
    clear hfin hs8 mv8 HFR' HM7 HO7 HAP7
    go_wp2
    go_roundw
    case rel =>
     refine ⟨k + 1, O3, some ⟨g7, 0, none⟩, c7, by omega, by go_num, ?_, ?_⟩
     ·rw [HTK.out]; show _ = Value.slice _ (al ++ [rr.2]).length _; rw [List.length_append]; rfl
     ·rw [HTK.out]; exact HFIN.out
    case measure => simp [intOf]; omega
  ·obtain rfl : k = xs.length := by omega
   rw [List.take_length] at hF ⊢
   go_wp2
   go_ret
   exact ⟨_, _, _, rfl, hF⟩
end
end Go.Proofs.YtcjjekhecjmaeaaGreatDoor
