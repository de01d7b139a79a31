/- asked, Ite, Not, And, Or, Xor, Lit, by their contracts. -/
import Derived.Test.YtcjjekhecjmaeaaGreatDoorBdRec
import Derived.Test.YtcjjekhecjmaeaaGreatDoorArQuad
set_option maxHeartbeats 2000000
set_option maxRecDepth 100000
namespace Go.Proofs.YtcjjekhecjmaeaaGreatDoor
open Go.RowKit Go.Maps
def OpOut (B s b : Nat) (O : Nat -> Prop) (vars : Nat) (room : Int) (r : List Nd × Int) (w : World) (e : Ending) (w' : World) : Prop :=
 e = .returned (.tuple #[.int .i64 r.2, .nilIface]) /\ ∃ O', SpaceAt B w' s b O' vars room r.1 /\ Moves O O' w w'
structure Room (B : Nat) (w : World) (vars : Nat) (room : Int) (ns : List Nd) : Prop where
 r : room <= 4000
 l : ((ns.length + 2 ^ vars : Nat) : Int) <= room + 1
 v : vars <= 12
 hB : B <= w.heap.size
section
variable {B s b : Nat} {O : Nat -> Prop} {F : FuncId} {op : Bool} {vars : Nat} {room : Int} {ns : List Nd} {w w' : World}
theorem Room.new (h : Room B w vars room ns) (hb : w.heap.size <= w'.heap.size) : Room B w' vars room ns := ⟨h.r, h.l, h.v, Nat.le_trans h.hB hb⟩
theorem pow12 {vars : Nat} (h : vars <= 12) : 2 ^ vars <= 4096 := Nat.pow_le_pow_right (by omega) h
theorem ints3 (w : World) (k : Nd) (hk : k.Ok) (t : TypeId) : IntsAt (w.alloc (.cells #[.int .i64 k.v, .int .i64 k.l, .int .i64 k.h] t)) w.heap.size [k.v, k.l, k.h] := by
 obtain ⟨x0, x1, x2, -⟩ := cell3 w (.int .i64 k.v) (.int .i64 k.l) (.int .i64 k.h) t
 refine ⟨by simp, fun i hi => ?_, fun z hz => ?_⟩
 ·simp at hi
  obtain rfl | rfl | rfl : i = 0 \/ i = 1 \/ i = 2 := by omega
  ·exact x0
  ·exact x1
  ·exact x2
 ·simp at hz
  rcases hz with rfl | rfl | rfl
  ·exact hk.1
  ·exact hk.2.1
  ·exact hk.2.2
theorem moves_of_mm {O' : Nat -> Prop} {dm : Nat} {w1 : World} (hb : Below w.heap.size w w1) (hd : w.heap.size <= dm) (h : MM O O' dm w1 w') : Moves O O' w w' :=
 ⟨(Kept.of_below hb _).andThen h.kept (fun i hi hlt => hi.elim id (fun e => by omega)), fun k hk => by
  rcases h.own k hk with h1 | h1
  ·exact .inl h1
  ·exact .inr (Nat.le_trans hb.size h1)⟩
theorem asked_any (hF : Knows F op) (h : SpaceAt B w s b O vars room ns) (hg : Good vars ns) (hR : Room B w vars room ns) (k : Nd) (h3 : Has3 ns k) :
  Calls Tryz.prog 97 #[.pointer (some ⟨s, 0, none⟩), .func (.func F) #[] #[], k.val] w (OpOut B s b O vars room (askF op ns k) w) := by
 have hone := Nat.one_le_two_pow (n := vars)
 have hr4 := hR.r
 have hrl := hR.l
 have p12 := pow12 hR.v
 have hok := ask_ok h3 (by omega)
 have hp := rk_le (vars := vars) hg.ranked k
 have hm0 := (minT_bd hg.ranked k).1
 have hpr := present_any (cp := 3) (h.new (below_new w (.cells #[.int .i64 k.v, .int .i64 k.l, .int .i64 k.h] 172))) (by omega) w.heap.size [k.v, k.l, k.h] (ints3 w k hok _) (by simp) (fun x hx => by
  simp at hx
  rcases hx with rfl | rfl | rfl
  ·exact h3.a
  ·exact h3.b
  ·exact h3.c)
 rw [show [k.v, k.l, k.h].length = 3 from rfl] at hpr
 have HP := Lib.hid hpr
 have HBG : Hid (∀ W, Below w.heap.size w W -> Calls Tryz.prog 104 #[.pointer (some ⟨s, 0, none⟩), .func (.func F) #[] #[]] W fun e w' => ∃ wk dm, e = .returned (.pointer (some ⟨wk, 0, none⟩)) /\ W.heap.size <= dm /\ WS B w' s b wk dm O F op vars room ns [] /\ Below W.heap.size W w') := fun W hW => by
  have hs := hW.size
  have hsl := h.slt
  refine (begin_any s F W B (Nat.le_trans hR.hB hs)).mono fun e w' ⟨he, hwk, hb⟩ => ⟨_, _, he, Nat.le_refl _, ?_, hb⟩
  have hSW := (h.new hW).new hb
  exact ⟨hSW, hwk, hg, memo_nil op ns, fun ho => by have := (h.own _ ho).2; omega, fun ho => by have := (h.own _ ho).2; omega, by omega, Nat.le_trans hR.hB (Nat.le_trans hs hb.size)⟩
 have HMK : Hid (∀ wk dm W, WS B W s b wk dm O F op vars room ns [] -> Calls Tryz.prog 139 #[.pointer (some ⟨wk, 0, none⟩), k.val] W fun e w' => e = .returned (.tuple #[.int .i64 (makesF 24 op ns [] k).2.2, .nilIface]) /\ ∃ O', WS B w' s b wk dm O' F op vars room (makesF 24 op ns [] k).1 (makesF 24 op ns [] k).2.1 /\ MM O O' dm W w') := fun wk dm W hW =>
  makes_any hr4 hF 24 ns [] k O W hW h3 (by omega) (by omega) (by simp; omega)
 have hb := below_new w (.cells #[.int .i64 k.v, .int .i64 k.l, .int .i64 k.h] 172)
 obtain ⟨x0, x1, x2, -⟩ := cell3 w (.int .i64 k.v) (.int .i64 k.l) (.int .i64 k.h) 172
 have bl : w.heap.size < (w.alloc (.cells #[.int .i64 k.v, .int .i64 k.l, .int .i64 k.h] 172)).heap.size := by simp
 unfold askF
 generalize makesF 24 op ns [] k = r at *
 unfold Nd.val at HMK ⊢
 have OO : Hid (∀ j, O j -> j < w.heap.size) := fun j ho => (h.own j ho).2
 clear hpr h hg hR h3 hok hp hF
 go_enter Tryz.func97, Tryz.ntmps97
 go_wp2_with fail
 refine HP.out.mono ?_
 rintro e w1 ⟨rfl, rfl⟩
 clear HP
 have HB := Lib.hid hb
 clear hb
 go_wp2_with fail
 generalize (w.alloc (.cells #[.int .i64 k.v, .int .i64 k.l, .int .i64 k.h] 172)) = W1 at *
 have f0 : W1.drew.cell? ⟨w.heap.size, 0, none⟩ = some (.int .i64 k.v) := x0
 have f1 : W1.drew.cell? ⟨w.heap.size, 1, none⟩ = some (.int .i64 k.l) := x1
 have f2 : W1.drew.cell? ⟨w.heap.size, 2, none⟩ = some (.int .i64 k.h) := x2
 have bl' : w.heap.size < W1.drew.heap.size := bl
 have HBX : Hid (∀ w2, Below W1.drew.heap.size W1.drew w2 -> Below w.heap.size w w2) := fun w2 hb2 => HB.out.drew.trans (hb2.mono HB.out.size)
 have SKL : Hid (∀ w2 w3 O' dm, Below W1.drew.heap.size W1.drew w2 -> W1.drew.heap.size <= dm -> MM O O' dm w2 w3 -> w3.cell? ⟨w.heap.size, 0, none⟩ = some (.int .i64 k.v) /\ w3.cell? ⟨w.heap.size, 1, none⟩ = some (.int .i64 k.l) /\ w3.cell? ⟨w.heap.size, 2, none⟩ = some (.int .i64 k.h)) := fun w2 w3 O' dm hb2 hdm mm => by
  have h2 : w.heap.size < w2.heap.size := Nat.lt_of_lt_of_le bl' hb2.size
  have ho : ¬ O w.heap.size := fun h => by have := OO.out _ h; omega
  have hd : w.heap.size ≠ dm := by omega
  exact ⟨(mm.cell (a := ⟨w.heap.size, 0, none⟩) h2 ho hd).trans ((hb2.cell (p := ⟨w.heap.size, 0, none⟩) bl').trans f0), (mm.cell (a := ⟨w.heap.size, 1, none⟩) h2 ho hd).trans ((hb2.cell (p := ⟨w.heap.size, 1, none⟩) bl').trans f1), (mm.cell (a := ⟨w.heap.size, 2, none⟩) h2 ho hd).trans ((hb2.cell (p := ⟨w.heap.size, 2, none⟩) bl').trans f2)⟩
 go_cut [6, 7] (fun a c wx => a = .int .i64 r.2.2 /\ c = .nilIface /\ ∃ O', SpaceAt B wx s b O' vars room r.1 /\ Moves O O' w wx)
 case first =>
  go_region_held3 (fun X => X.cell? ⟨w.heap.size, 0, none⟩ = some (.int .i64 k.v) /\ X.cell? ⟨w.heap.size, 1, none⟩ = some (.int .i64 k.l) /\ X.cell? ⟨w.heap.size, 2, none⟩ = some (.int .i64 k.h)) (first | exact ⟨f0, f1, f2⟩ | exact ⟨(hb2.cell (p := ⟨w.heap.size, 0, none⟩) bl').trans f0, (hb2.cell (p := ⟨w.heap.size, 1, none⟩) bl').trans f1, (hb2.cell (p := ⟨w.heap.size, 2, none⟩) bl').trans f2⟩ | exact SK)
   (first
    | (go_at_call 104; with_reducible refine (HBG.out _ HB.out.drew).mono ?_; rintro e w2 ⟨wk, dm, rfl, hdm, hws, hb2⟩)
    | (go_at_call 139; with_reducible refine (HMK.out _ _ _ hws).mono ?_; rintro e w3 ⟨rfl, O', hw3, mm3⟩; have hb3 := HBX.out _ hb2; have SK := SKL.out _ _ _ _ hb2 hdm mm3))
  all_goals
   go_wp2_with fail
   go_meet
   case rel => exact ⟨rfl, rfl, O', hw3.space, moves_of_mm hb3 (by omega) mm3⟩
 case rest =>
  obtain ⟨rfl, rfl, hO⟩ := hcut
  go_wp2
  go_ret2
  exact ⟨rfl, hO⟩
theorem ite_op (h : SpaceAt B w s b O vars room ns) (hg : Good vars ns) (hR : Room B w vars room ns) (x y z : Int) (h1 : hasB ns x = true) (h2 : hasB ns y = true) (h3 : hasB ns z = true) :
  Calls Tryz.prog 67 #[.pointer (some ⟨s, 0, none⟩), .int .i64 x, .int .i64 y, .int .i64 z] w (OpOut B s b O vars room (askF true ns ⟨x, y, z⟩) w) := by
 have HC := Lib.hid (asked_any knows_ite h hg hR ⟨x, y, z⟩ ⟨h1, h2, h3⟩)
 unfold Nd.val at HC
 generalize askF true ns ⟨x, y, z⟩ = r at *
 clear h hg hR h1 h2 h3
 go_enter Tryz.func67, Tryz.ntmps67
 go_wp2_with fail
 refine HC.out.mono ?_
 rintro e w' ⟨rfl, hO⟩
 go_wp2
 go_ret2
 exact ⟨rfl, hO⟩
theorem not_op (h : SpaceAt B w s b O vars room ns) (hg : Good vars ns) (hR : Room B w vars room ns) (x : Int) (h1 : hasB ns x = true) :
  Calls Tryz.prog 63 #[.pointer (some ⟨s, 0, none⟩), .int .i64 x] w (OpOut B s b O vars room (askF true ns ⟨x, 0, 1⟩) w) := by
 have HC := Lib.hid (asked_any knows_ite h hg hR ⟨x, 0, 1⟩ ⟨h1, has_end0 ns, has_end1 ns⟩)
 unfold Nd.val at HC
 generalize askF true ns ⟨x, 0, 1⟩ = r at *
 clear h hg hR h1
 go_enter Tryz.func63, Tryz.ntmps63
 go_wp2_with fail
 refine HC.out.mono ?_
 rintro e w' ⟨rfl, hO⟩
 go_wp2
 go_ret2
 exact ⟨rfl, hO⟩
theorem xor_op (h : SpaceAt B w s b O vars room ns) (hg : Good vars ns) (hR : Room B w vars room ns) (x y : Int) (h1 : hasB ns x = true) (h2 : hasB ns y = true) :
  Calls Tryz.prog 66 #[.pointer (some ⟨s, 0, none⟩), .int .i64 x, .int .i64 y] w (OpOut B s b O vars room (askF false ns ⟨x, y, 0⟩) w) := by
 have HC := Lib.hid (asked_any knows_xor h hg hR ⟨x, y, 0⟩ ⟨h1, h2, has_end0 ns⟩)
 unfold Nd.val at HC
 generalize askF false ns ⟨x, y, 0⟩ = r at *
 clear h hg hR h1 h2
 go_enter Tryz.func66, Tryz.ntmps66
 go_wp2_with fail
 refine HC.out.mono ?_
 rintro e w' ⟨rfl, hO⟩
 go_wp2
 go_ret2
 exact ⟨rfl, hO⟩
theorem both_any (x y : Int) (w : World) : Calls Tryz.prog 99 #[.int .i64 x, .int .i64 y] w fun e w' => e = .returned (.agg #[.int .i64 x, .int .i64 y, .int .i64 0]) /\ Below w.heap.size w w' := by
 have hb := below_new w (.cells #[.int .i64 x, .int .i64 y, .int .i64 0] 172)
 go_enter Tryz.func99, Tryz.ntmps99
 go_wp2
 exact bodyPost_ret (v := .agg #[.int .i64 x, .int .i64 y, .int .i64 0]) (by simp [results, Tryz.results99, go_sem]) rfl ⟨rfl, hb⟩
theorem either_any (x y : Int) (w : World) : Calls Tryz.prog 100 #[.int .i64 x, .int .i64 y] w fun e w' => e = .returned (.agg #[.int .i64 x, .int .i64 1, .int .i64 y]) /\ Below w.heap.size w w' := by
 have hb := below_new w (.cells #[.int .i64 x, .int .i64 1, .int .i64 y] 172)
 go_enter Tryz.func100, Tryz.ntmps100
 go_wp2
 exact bodyPost_ret (v := .agg #[.int .i64 x, .int .i64 1, .int .i64 y]) (by simp [results, Tryz.results100, go_sem]) rfl ⟨rfl, hb⟩
theorem OpOut.later {r : List Nd × Int} {w1 : World} {e : Ending} (hb : Below w.heap.size w w1) (h : OpOut B s b O vars room r w1 e w') : OpOut B s b O vars room r w e w' := by
 obtain ⟨he, O', hS, hM⟩ := h
 exact ⟨he, O', hS, (Moves.of_below O hb).trans hM⟩
theorem and_op (h : SpaceAt B w s b O vars room ns) (hg : Good vars ns) (hR : Room B w vars room ns) (x y : Int) (h1 : hasB ns x = true) (h2 : hasB ns y = true) :
  Calls Tryz.prog 64 #[.pointer (some ⟨s, 0, none⟩), .int .i64 x, .int .i64 y] w (OpOut B s b O vars room (askF true ns ⟨x, y, 0⟩) w) := by
 have HC : Hid (∀ W, Below w.heap.size w W -> Calls Tryz.prog 97 #[.pointer (some ⟨s, 0, none⟩), .func (.func 98) #[] #[], .agg #[.int .i64 x, .int .i64 y, .int .i64 0]] W (OpOut B s b O vars room (askF true ns ⟨x, y, 0⟩) W)) := fun W hW =>
  asked_any knows_ite (h.new hW) hg (hR.new hW.size) ⟨x, y, 0⟩ ⟨h1, h2, has_end0 ns⟩
 generalize askF true ns ⟨x, y, 0⟩ = r at *
 clear h hg hR h1 h2
 go_enter Tryz.func64, Tryz.ntmps64
 go_wp2_with fail
 refine (both_any x y w).mono ?_
 rintro e w1 ⟨rfl, hb1⟩
 have HC' := Lib.hid (HC.out w1 hb1)
 clear HC
 go_wp2_with fail
 refine HC'.out.mono ?_
 rintro e w' ⟨rfl, hO⟩
 go_wp2
 go_ret2
 exact OpOut.later hb1 ⟨rfl, hO⟩
theorem or_op (h : SpaceAt B w s b O vars room ns) (hg : Good vars ns) (hR : Room B w vars room ns) (x y : Int) (h1 : hasB ns x = true) (h2 : hasB ns y = true) :
  Calls Tryz.prog 65 #[.pointer (some ⟨s, 0, none⟩), .int .i64 x, .int .i64 y] w (OpOut B s b O vars room (askF true ns ⟨x, 1, y⟩) w) := by
 have HC : Hid (∀ W, Below w.heap.size w W -> Calls Tryz.prog 97 #[.pointer (some ⟨s, 0, none⟩), .func (.func 98) #[] #[], .agg #[.int .i64 x, .int .i64 1, .int .i64 y]] W (OpOut B s b O vars room (askF true ns ⟨x, 1, y⟩) W)) := fun W hW =>
  asked_any knows_ite (h.new hW) hg (hR.new hW.size) ⟨x, 1, y⟩ ⟨h1, has_end1 ns, h2⟩
 generalize askF true ns ⟨x, 1, y⟩ = r at *
 clear h hg hR h1 h2
 go_enter Tryz.func65, Tryz.ntmps65
 go_wp2_with fail
 refine (either_any x y w).mono ?_
 rintro e w1 ⟨rfl, hb1⟩
 have HC' := Lib.hid (HC.out w1 hb1)
 clear HC
 go_wp2_with fail
 refine HC'.out.mono ?_
 rintro e w' ⟨rfl, hO⟩
 go_wp2
 go_ret2
 exact OpOut.later hb1 ⟨rfl, hO⟩
theorem lit_op (h : SpaceAt B w s b O vars room ns) (hR : Room B w vars room ns) (v : Int) (is : Bool) (hv0 : 0 <= v) (hv : v < (vars : Int)) :
  Calls Tryz.prog 58 #[.pointer (some ⟨s, 0, none⟩), .int .i64 v, .bool is] w (OpOut B s b O vars room (litF ns v is) w) := by
 have h1 : 1 <= vars := by omega
 have h2 : 2 <= 2 ^ vars := by
  obtain ⟨q, rfl⟩ : ∃ q, vars = q + 1 := ⟨vars - 1, by omega⟩
  have := Nat.one_le_two_pow (n := q); rw [Nat.pow_succ]; omega
 have hr4 := hR.r
 have hrl := hR.l
 have hv12 := hR.v
 have HV := Lib.hid (variable_any h v hv0 hv)
 unfold litF
 cases is with
 | true =>
  rw [if_pos rfl]
  have HN := Lib.hid (node_any h (by omega) (by omega) hR.hB v 0 1 hv0 (by omega) (has_end0 ns) (has_end1 ns) (by rw [top_end0]; omega) (by rw [top_end1]; omega))
  generalize nodeF ns v 0 1 = r at *
  clear h hR
  go_enter Tryz.func58, Tryz.ntmps58
  go_wp2_with fail
  refine HV.out.mono ?_
  rintro e w1 ⟨rfl, rfl⟩
  go_wp2_with fail
  refine HN.out.mono ?_
  rintro e w' ⟨rfl, hO⟩
  go_wp2
  go_ret2
  exact ⟨rfl, hO⟩
 | false =>
  rw [if_neg (by simp)]
  have HN := Lib.hid (node_any h (by omega) (by omega) hR.hB v 1 0 hv0 (by omega) (has_end1 ns) (has_end0 ns) (by rw [top_end1]; omega) (by rw [top_end0]; omega))
  generalize nodeF ns v 1 0 = r at *
  clear h hR
  go_enter Tryz.func58, Tryz.ntmps58
  go_wp2_with fail
  refine HV.out.mono ?_
  rintro e w1 ⟨rfl, rfl⟩
  go_wp2_with fail
  refine HN.out.mono ?_
  rintro e w' ⟨rfl, hO⟩
  go_wp2
  go_ret2
  exact ⟨rfl, hO⟩
end
end Go.Proofs.YtcjjekhecjmaeaaGreatDoor
