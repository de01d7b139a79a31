/- Make, node and one whatever the room. -/
import Derived.Test.YtbklgjmkdhinpaaGreatDoorFmFun
import Derived.Test.YtbklgjmkdhinpaaGreatDoorFmListG
import Derived.Test.YtbklgjmkdhinpaaGreatDoorFmIn
import Derived.Test.YtbklgjmkdhinpaaGreatDoorCnNum
import Derived.Test.YtbklgjmkdhinpaaGreatDoorFmOneS
set_option maxHeartbeats 1000000
set_option maxRecDepth 100000
namespace Go.Proofs.YtbklgjmkdhinpaaGreatDoor.Fm
open Go.RowKit Go.Maps Go.Proofs.YtbklgjmkdhinpaaGreatDoor.Bd
section
variable {B s b : Nat} {O : Nat -> Prop} {vars room : Nat} {ns : List Nd} {w : World}
theorem or_e {a d x : Int} {ev : Value} (hA : Calls Tryz.prog 41 #[.pointer (some ⟨s, 0, none⟩), .func (.func 42) #[] #[], .int .i64 a, .int .i64 d] w fun e w' => e = .returned (.tuple #[.int .i64 x, ev]) /\ Below w.heap.size w w') :
  Calls Tryz.prog 15 #[.pointer (some ⟨s, 0, none⟩), .int .i64 a, .int .i64 d] w fun e w' => e = .returned (.tuple #[.int .i64 x, ev]) /\ Below w.heap.size w w' := by
 have HA := Lib.hid hA
 clear hA
 go_enter Tryz.func15, Tryz.ntmps15
 go_wp2_with fail
 refine HA.out.mono ?_
 rintro e w' ⟨rfl, hb⟩
 go_wp2
 go_ret2
 exact ⟨rfl, hb⟩
theorem and_e {a d x : Int} {ev : Value} (hA : Calls Tryz.prog 41 #[.pointer (some ⟨s, 0, none⟩), .func (.func 43) #[] #[], .int .i64 a, .int .i64 d] w fun e w' => e = .returned (.tuple #[.int .i64 x, ev]) /\ Below w.heap.size w w') :
  Calls Tryz.prog 16 #[.pointer (some ⟨s, 0, none⟩), .int .i64 a, .int .i64 d] w fun e w' => e = .returned (.tuple #[.int .i64 x, ev]) /\ Below w.heap.size w w' := by
 have HA := Lib.hid hA
 clear hA
 go_enter Tryz.func16, Tryz.ntmps16
 go_wp2_with fail
 refine HA.out.mono ?_
 rintro e w' ⟨rfl, hb⟩
 go_wp2
 go_ret2
 exact ⟨rfl, hb⟩
theorem less_e {a d x : Int} {ev : Value} (hA : Calls Tryz.prog 41 #[.pointer (some ⟨s, 0, none⟩), .func (.func 44) #[] #[], .int .i64 a, .int .i64 d] w fun e w' => e = .returned (.tuple #[.int .i64 x, ev]) /\ Below w.heap.size w w') :
  Calls Tryz.prog 17 #[.pointer (some ⟨s, 0, none⟩), .int .i64 a, .int .i64 d] w fun e w' => e = .returned (.tuple #[.int .i64 x, ev]) /\ Below w.heap.size w w' := by
 have HA := Lib.hid hA
 clear hA
 go_enter Tryz.func17, Tryz.ntmps17
 go_wp2_with fail
 refine HA.out.mono ?_
 rintro e w' ⟨rfl, hb⟩
 go_wp2
 go_ret2
 exact ⟨rfl, hb⟩
theorem join_e {a d x : Int} {ev : Value} (hA : Calls Tryz.prog 41 #[.pointer (some ⟨s, 0, none⟩), .func (.func 45) #[] #[], .int .i64 a, .int .i64 d] w fun e w' => e = .returned (.tuple #[.int .i64 x, ev]) /\ Below w.heap.size w w') :
  Calls Tryz.prog 18 #[.pointer (some ⟨s, 0, none⟩), .int .i64 a, .int .i64 d] w fun e w' => e = .returned (.tuple #[.int .i64 x, ev]) /\ Below w.heap.size w w' := by
 have HA := Lib.hid hA
 clear hA
 go_enter Tryz.func18, Tryz.ntmps18
 go_wp2_with fail
 refine HA.out.mono ?_
 rintro e w' ⟨rfl, hb⟩
 go_wp2
 go_ret2
 exact ⟨rfl, hb⟩
theorem without_e {a d x : Int} {ev : Value} (hA : Calls Tryz.prog 41 #[.pointer (some ⟨s, 0, none⟩), .func (.func 46) #[] #[], .int .i64 a, .int .i64 d] w fun e w' => e = .returned (.tuple #[.int .i64 x, ev]) /\ Below w.heap.size w w') :
  Calls Tryz.prog 19 #[.pointer (some ⟨s, 0, none⟩), .int .i64 a, .int .i64 d] w fun e w' => e = .returned (.tuple #[.int .i64 x, ev]) /\ Below w.heap.size w w' := by
 have HA := Lib.hid hA
 clear hA
 go_enter Tryz.func19, Tryz.ntmps19
 go_wp2_with fail
 refine HA.out.mono ?_
 rintro e w' ⟨rfl, hb⟩
 go_wp2
 go_ret2
 exact ⟨rfl, hb⟩
theorem least_e {a x : Int} {ev : Value} (hA : Calls Tryz.prog 41 #[.pointer (some ⟨s, 0, none⟩), .func (.func 47) #[] #[], .int .i64 a, .int .i64 0] w fun e w' => e = .returned (.tuple #[.int .i64 x, ev]) /\ Below w.heap.size w w') :
  Calls Tryz.prog 20 #[.pointer (some ⟨s, 0, none⟩), .int .i64 a] w fun e w' => e = .returned (.tuple #[.int .i64 x, ev]) /\ Below w.heap.size w w' := by
 have HA := Lib.hid hA
 clear hA
 go_enter Tryz.func20, Tryz.ntmps20
 go_wp2_with fail
 refine HA.out.mono ?_
 rintro e w' ⟨rfl, hb⟩
 go_wp2
 go_ret2
 exact ⟨rfl, hb⟩
theorem present_one (hS : FamAt B w s b O vars room ns) (h : Int) (hi : I64 h) (hno : ¬ hasB ns h = true) :
  Calls Tryz.prog 29 #[.pointer (some ⟨s, 0, none⟩), .slice (some ⟨w.heap.size, 0, none⟩) 1 1] (w.alloc (.cells #[.int .i64 h] 3)) fun e w' => e = .returned (.iface 42 (.int .i64 7)) /\ (w.alloc (.cells #[.int .i64 h] 3)) = w' := by
 have hl := hS.len
 have := present_no (cp := 1) (hS.space.new (below_new w (.cells #[.int .i64 h] 3))) (by omega) w.heap.size [h] (ints1 w h hi) (by simp) ⟨h, by simp, hno⟩
 exact this
theorem count_no (hS : FamAt B w s b O vars room ns) (h : Int) (hi : I64 h) (hno : ¬ hasB ns h = true) :
  Calls Tryz.prog 8 #[.pointer (some ⟨s, 0, none⟩), .int .i64 h] w fun e w' => e = .returned (.tuple #[.agg #[.slice none 0 0], .iface 42 (.int .i64 7)]) /\ Below w.heap.size w w' := by
 have hb0 := below_new w (.cells #[.slice none 0 0] 38)
 have s1 : (w.alloc (.cells #[.slice none 0 0] 38)).heap.size = w.heap.size + 1 := by simp
 have HP := present_one (hS.new hb0) h hi hno
 rw [s1] at HP
 have HPR := Lib.hid HP
 have hb1 := hb0.alloc hb0.size (.cells #[.int .i64 h] 3)
 have c0 : ((w.alloc (.cells #[.slice none 0 0] 38)).alloc (.cells #[.int .i64 h] 3)).cell? ⟨w.heap.size, 0, none⟩ = some (.slice none 0 0) := by
  rw [(below_new (w.alloc (.cells #[.slice none 0 0] 38)) (.cells #[.int .i64 h] 3)).cell (p := ⟨w.heap.size, 0, none⟩) (by simp)]; simp
 have HB := Lib.hid hb1
 clear hS hno hb0 hb1 HP
 go_enter Tryz.func8, Tryz.ntmps8
 go_wp2_with fail
 refine HPR.out.mono ?_
 rintro e w1 ⟨rfl, rfl⟩
 clear HPR
 go_wp2
 refine bodyPost_ret (v := .tuple #[.agg #[.slice none 0 0], .iface 42 (.int .i64 7)]) (by simp [results, Tryz.results8, go_sem, c0]) rfl ⟨rfl, HB.out⟩
theorem listed_no (hS : FamAt B w s b O vars room ns) (h : Int) (hi : I64 h) (hno : ¬ hasB ns h = true) (most : Int) :
  Calls Tryz.prog 26 #[.pointer (some ⟨s, 0, none⟩), .int .i64 h, .int .i64 most] w fun e w' => e = .returned (.iface 42 (.int .i64 7)) /\ Below w.heap.size w w' := by
 have HC := Lib.hid (count_no hS h hi hno)
 clear hS hno
 go_enter Tryz.func26, Tryz.ntmps26
 go_wp2_with fail
 refine HC.out.mono ?_
 rintro e w1 ⟨rfl, hb1⟩
 have HB := Lib.hid (hb1.alloc hb1.size (.cells #[.slice none 0 0] 38))
 clear hb1 HC
 go_wp2
 go_ret
 exact ⟨rfl, HB.out⟩
theorem list_no (hS : FamAt B w s b O vars room ns) (h : Int) (hi : I64 h) (hno : ¬ hasB ns h = true) (most : Int) :
  Calls Tryz.prog 7 #[.pointer (some ⟨s, 0, none⟩), .int .i64 h, .int .i64 most] w fun e w' => e = .returned (.tuple #[.slice none 0 0, .iface 42 (.int .i64 7)]) /\ Below w.heap.size w w' := by
 have HC := Lib.hid (listed_no hS h hi hno most)
 clear hS hno
 go_enter Tryz.func7, Tryz.ntmps7
 go_wp2_with fail
 refine HC.out.mono ?_
 rintro e w1 ⟨rfl, hb1⟩
 go_wp2
 go_ret2
 exact ⟨rfl, hb1⟩
theorem hits_no (hS : FamAt B w s b O vars room ns) (h : Int) (hi : I64 h) (hno : ¬ hasB ns h = true) :
  Calls Tryz.prog 21 #[.pointer (some ⟨s, 0, none⟩), .int .i64 h] w fun e w' => e = .returned (.tuple #[.int .i64 0, .iface 42 (.int .i64 7)]) /\ Below w.heap.size w w' := by
 have HC := Lib.hid (listed_no hS h hi hno 65536)
 clear hS hno
 go_enter Tryz.func21, Tryz.ntmps21
 go_wp2_with fail
 refine HC.out.mono ?_
 rintro e w1 ⟨rfl, hb1⟩
 go_wp2
 go_ret2
 exact ⟨rfl, hb1⟩
theorem hits_once (hS : FamAt B w s b O vars room ns) {h x : Int} (hh : hasB ns h = true) (hn : nsN ns h <= 65536) (hk : knownZ .hits h 0 = some x) :
  Calls Tryz.prog 21 #[.pointer (some ⟨s, 0, none⟩), .int .i64 h] w fun e w' => e = .returned (.tuple #[.int .i64 x, .nilIface]) /\ Below w.heap.size w w' := by
 have HL := Lib.hid (listed_yes w hS h hh 65536 (by omega))
 have HA : Hid (∀ W, Below w.heap.size w W -> Calls Tryz.prog 41 #[.pointer (some ⟨s, 0, none⟩), .func (.func 48) #[] #[], .int .i64 h, .int .i64 0] W fun e w' => e = .returned (.tuple #[.int .i64 x, .nilIface]) /\ Below W.heap.size W w') := fun W hW => asked_once mkb_hits (fun _ _ => by kernel_rfl) (hS.new hW) hh (end_has0 ns) hk
 clear hS hh hk
 go_enter Tryz.func21, Tryz.ntmps21
 go_wp2_with fail
 refine HL.out.mono ?_
 rintro e w1 ⟨rfl, hb1⟩
 clear HL
 go_wp2_with fail
 refine (HA.out _ hb1).mono ?_
 rintro e w2 ⟨rfl, hb2⟩
 go_wp2
 go_ret2
 exact ⟨rfl, hb1.trans (hb2.mono hb1.size)⟩
theorem in_no (hS : FamAt B w s b O vars room ns) (h : Int) (hi : I64 h) (hno : ¬ hasB ns h = true) (x : Int) :
  Calls Tryz.prog 13 #[.pointer (some ⟨s, 0, none⟩), .int .i64 h, .int .u64 x] w fun e w' => e = .returned (.tuple #[.bool false, .iface 42 (.int .i64 7)]) /\ Below w.heap.size w w' := by
 have HPR := Lib.hid (present_one hS h hi hno)
 have HB := Lib.hid (below_new w (.cells #[.int .i64 h] 3))
 clear hS hno
 go_enter Tryz.func13, Tryz.ntmps13
 go_wp2_with fail
 refine HPR.out.mono ?_
 rintro e w1 ⟨rfl, rfl⟩
 clear HPR
 go_wp2
 go_ret2
 exact ⟨rfl, HB.out⟩
theorem in_bad (hS : FamAt B w s b O vars room ns) (h : Int) (hh : hasB ns h = true) (x : Nat) (hx : ¬ x < 2 ^ vars) (hx64 : x < 2 ^ 64) :
  Calls Tryz.prog 13 #[.pointer (some ⟨s, 0, none⟩), .int .i64 h, .int .u64 (x : Int)] w fun e w' => e = .returned (.tuple #[.bool false, .iface 42 (.int .i64 2)]) /\ Below w.heap.size w w' := by
 have hl := hS.len
 have hi := has_i64 hh (by omega)
 have HP := present_any (cp := 1) (hS.space.new (below_new w (.cells #[.int .i64 h] 3))) (by omega) w.heap.size [h] (ints1 w h hi) (by simp) (fun y hy => by rw [List.mem_singleton] at hy; subst hy; exact hh)
 rw [show [h].length = 1 from rfl] at HP
 have HPR := Lib.hid HP
 have HA := Lib.hid (among_bad (hS.new (below_new w (.cells #[.int .i64 h] 3))).space hS.v24 x hx hx64)
 have HB := Lib.hid (below_new w (.cells #[.int .i64 h] 3))
 clear hS hh hx HP
 go_enter Tryz.func13, Tryz.ntmps13
 go_wp2_with fail
 refine HPR.out.mono ?_
 rintro e w1 ⟨rfl, rfl⟩
 clear HPR
 go_wp2_with fail
 refine HA.out.mono ?_
 rintro e w1 ⟨rfl, rfl⟩
 clear HA
 go_wp2
 go_ret2
 exact ⟨rfl, HB.out⟩
end
theorem anew_bad (r : Int) (hr : r < 0 \/ 4000 < r) (w : World) :
  Calls Tryz.prog 40 #[.int .i64 r] w fun e w' => e = .returned (.tuple #[.pointer none, .iface 42 (.int .i64 2)]) /\ w = w' := by
 go_enter Tryz.func40, Tryz.ntmps40
 by_cases h : r < 0
 ·go_wp2
  go_ret2
  exact ⟨rfl, rfl⟩
 ·have h2 : r > 4000 := by omega
  go_wp2
  go_ret2
  exact ⟨rfl, rfl⟩
theorem fnew_no (vars : Int) (r : Int) (h : vars < 0 \/ 24 < vars \/ r < 0 \/ 4000 < r) (w : World) :
  Calls Tryz.prog 14 #[.int .i64 vars, .int .i64 r] w fun e w' => e = .returned (.tuple #[.pointer none, .iface 42 (.int .i64 2)]) /\ w = w' := by
 by_cases hv : vars < 0 \/ 24 < vars
 ·exact fnew_bad vars hv r w
 ·have HN := Lib.hid (anew_bad r (by omega) w)
  have h1 : ¬ vars < 0 := by omega
  have h2 : ¬ vars > 24 := by omega
  clear h hv
  go_enter Tryz.func14, Tryz.ntmps14
  go_wp2_with fail
  refine HN.out.mono ?_
  rintro e w1 ⟨rfl, rfl⟩
  go_wp2
  go_ret2
  exact ⟨rfl, rfl⟩
end Go.Proofs.YtbklgjmkdhinpaaGreatDoor.Fm
namespace Go.Proofs.YtbklgjmkdhinpaaGreatDoor.Bd
open Go.RowKit Go.Maps
section
variable {B s b : Nat} {O : Nat -> Prop} {vars : Nat} {room : Int} {ns : List Nd} {w : World}
theorem make_no (hS : SpaceAt B w s b O vars room ns) (hl : ns.length <= 90000) (hr : ¬ (cnt ns : Int) < room) (n : Nd) (hn : n.Ok) (hf : Fit ns n) (hnin : ∀ j, j < ns.length -> nd ns j ≠ n) :
  Calls Tryz.prog 111 #[.pointer (some ⟨b, 0, none⟩), n.val] w fun e w' => e = .returned (.tuple #[.int .i64 0, .iface 42 (.int .i64 12)]) /\ Below w.heap.size w w' := by
 obtain ⟨bm, v, L, next, hA, hBk, -, hO⟩ := hS.arena
 have hLl : L.length <= ns.length := by rw [book_len hBk]; exact taken_le ns
 have hLc : L.length = cnt ns := by rw [book_len hBk]; exact taken_cnt ns
 refine make_full hA (by omega) n hn hf (fun h => ?_) (by omega)
 obtain ⟨p, hp, rfl⟩ := List.mem_map.1 h
 obtain ⟨j, hj, -, e⟩ := hBk.mem p hp
 first | exact hnin j hj e | exact hnin j hj e.symm | (cases e; exact hnin j hj rfl)
end
end Go.Proofs.YtbklgjmkdhinpaaGreatDoor.Bd
namespace Go.Proofs.YtbklgjmkdhinpaaGreatDoor.Fm
open Go.RowKit Go.Maps Go.Proofs.YtbklgjmkdhinpaaGreatDoor.Bd
def ErrW (wk s : Nat) (w : World) : Prop := w.cell? ⟨wk, 0, none⟩ = some (.pointer (some ⟨s, 0, none⟩)) /\ w.cell? ⟨wk, 1, none⟩ = some (.iface 42 (.int .i64 12)) /\ wk < w.heap.size
theorem ErrW.new {wk s : Nat} {w w' : World} (h : ErrW wk s w) (hb : Below w.heap.size w w') : ErrW wk s w' :=
 ⟨(hb.cell (p := ⟨wk, 0, none⟩) h.2.2).trans h.1, (hb.cell (p := ⟨wk, 1, none⟩) h.2.2).trans h.2.1, Nat.lt_of_lt_of_le h.2.2 hb.size⟩
section
variable {B s b : Nat} {c : Ctx} {O : Nat -> Prop} {vars room : Nat} {ns : List Nd} {w : World}
theorem node_err {wk s : Nat} (h : ErrW wk s w) (v p q : Int) :
  Calls Tryz.prog 85 #[.pointer (some ⟨wk, 0, none⟩), .int .i64 v, .agg #[.int .i64 p, .int .i64 q]] w fun e w' => e = .returned (.int .i64 p) /\ Below w.heap.size w w' := by
 have hb0 := below_new w (.cells #[.int .i64 p, .int .i64 q] 124)
 have h0 := h.new hb0
 have w0 := h0.1
 have w1 := h0.2.1
 have hr := Two.new w p q
 obtain ⟨⟨r0, -, r2, -⟩, -⟩ := two_put hr 0 0
 have HB0 := Lib.hid hb0
 clear hr h h0 hb0
 go_enter Tryz.func85, Tryz.ntmps85
 go_wp2
 go_ret
 exact ⟨rfl, HB0.out⟩
theorem answer_err {wk s : Nat} (h : ErrW wk s w) (x : Int) :
  Calls Tryz.prog 49 #[.pointer (some ⟨wk, 0, none⟩), .int .i64 x] w fun e w' => e = .returned (.tuple #[.int .i64 0, .iface 42 (.int .i64 12)]) /\ Below w.heap.size w w' := by
 have w1 := h.2.1
 clear h
 go_enter Tryz.func49, Tryz.ntmps49
 go_wp2
 go_region
 go_wp2
 go_ret2
 exact ⟨rfl, by first | exact Below.refl _ _ | exact (Below.refl _ _).drew | exact below_drewN _ _ _⟩
theorem node_no (hC : CtxAt B w c O vars ns) (hroom : ¬ (cnt ns : Int) < (c.room : Int)) (v p q : Int) (hv0 : 0 <= v) (hv1 : v < 24) (hp1 : hasB ns p = true) (hq1 : hasB ns q = true) (tp : v < topOf ns p) (tq : v < topOf ns q) (hq0 : q ≠ 0) (hnin : ∀ j, j < ns.length -> nd ns j ≠ ⟨v, p, q⟩) :
  Calls Tryz.prog 85 #[.pointer (some ⟨c.wk, 0, none⟩), .int .i64 v, .agg #[.int .i64 p, .int .i64 q]] w fun e w' =>
   e = .returned (.int .i64 0) /\ ErrW c.wk c.s w' /\ Kept (fun i => i = c.wk) w w' := by
 have hb0 := below_new w (.cells #[.int .i64 p, .int .i64 q] 124)
 have hC0 := hC.new hb0
 have w0 := hC0.w0
 have w1 := hC0.w1
 have c0 := hC0.space.c0
 have hr := Two.new w p q
 obtain ⟨⟨r0, -, r2, -⟩, -⟩ := two_put hr 0 0
 clear hr
 have HB0 := Lib.hid hb0
 have hl := hC.len
 have hbd : Below (w.alloc (.cells #[.int .i64 p, .int .i64 q] 124)).heap.size (w.alloc (.cells #[.int .i64 p, .int .i64 q] 124)) (w.alloc (.cells #[.int .i64 p, .int .i64 q] 124)).drew := (Below.refl _ _).drew
 have hC1 := hC0.new hbd
 have hm := make_no hC1.space (by omega) hroom ⟨v, p, q⟩ ⟨⟨by show _ <= v; omega, by show v <= _; omega⟩, has_i64 hp1 (by omega), has_i64 hq1 (by omega)⟩ ⟨hv0, hv1, hp1, hq1, tp, tq⟩ hnin
 unfold Nd.val at hm
 have HM := Lib.hid hm
 have HC := Lib.hid hC1
 have bl : ¬ O w.heap.size := fun ho => by have := (hC.space.own _ ho).2; omega
 have bl2 : w.heap.size < (w.alloc (.cells #[.int .i64 p, .int .i64 q] 124)).drew.heap.size := by show _ < (w.alloc _).heap.size; simp
 have wl0 := hC.wlt
 have wl := hC1.wlt
 have sl := hC1.space.slt
 have wO := hC1.wO
 have sO := hC1.space.sO
 clear hC hC0 hC1 hp1 hq1 tp tq hb0 hbd hm hnin
 have q0 : (q == 0) = false := by simpa using hq0
 go_enter Tryz.func85, Tryz.ntmps85
 go_wp2_with fail
 generalize (w.alloc (.cells #[.int .i64 p, .int .i64 q] 124)) = W1 at *
 have e0 : W1.drew.cell? ⟨c.wk, 0, none⟩ = some (.pointer (some ⟨c.s, 0, none⟩)) := w0
 have e1 : W1.drew.cell? ⟨c.s, 0, none⟩ = some (.pointer (some ⟨c.b, 0, none⟩)) := c0
 have e2 : W1.drew.cell? ⟨w.heap.size, 0, none⟩ = some (.int .i64 p) := r0
 have e3 : W1.drew.cell? ⟨w.heap.size, 1, none⟩ = some (.int .i64 q) := r2
 go_region_held3 (fun w' => w'.cell? ⟨c.wk, 0, none⟩ = some (.pointer (some ⟨c.s, 0, none⟩)) /\ w'.cell? ⟨c.s, 0, none⟩ = some (.pointer (some ⟨c.b, 0, none⟩)) /\ w'.cell? ⟨w.heap.size, 0, none⟩ = some (.int .i64 p) /\ w'.cell? ⟨w.heap.size, 1, none⟩ = some (.int .i64 q)) (first | exact ⟨e0, e1, e2, e3⟩ | exact ⟨(hmb.cell (p := ⟨c.wk, 0, none⟩) wl).trans e0, (hmb.cell (p := ⟨c.s, 0, none⟩) sl).trans e1, (hmb.cell (p := ⟨w.heap.size, 0, none⟩) bl2).trans e2, (hmb.cell (p := ⟨w.heap.size, 1, none⟩) bl2).trans e3⟩)
  (first | (with_reducible refine HM.out.mono ?_; rintro e w2 ⟨rfl, hmb⟩))
 have wb2 : w2.heap[c.wk]? = some (.cells #[.pointer (some ⟨c.s, 0, none⟩), .nilIface] 95) := (hmb.block _ wl).trans HC.out.wb
 have g0 : w2.cell? ⟨c.wk, 0, none⟩ = some (.pointer (some ⟨c.s, 0, none⟩)) := by simp [World.cell?, wb2]
 have g1 : w2.cell? ⟨c.wk, 1, none⟩ = some .nilIface := by simp [World.cell?, wb2]
 have f1 : w2.frozen? ⟨c.wk, 1, none⟩ = false := by simp [World.frozen?, wb2]
 have HE : Hid (ErrW c.wk c.s (w2.setCell ⟨c.wk, 1, none⟩ (.iface 42 (.int .i64 12)))) := ⟨by
  simp [World.cell?, World.setCell, Array.getElem?_modify, wb2], World.cell?_setCell_same _ _ _ g1, by
  have := hmb.size
  simp [World.setCell]; exact Nat.lt_of_lt_of_le wl this⟩
 have HK : Hid (Kept (fun i => i = c.wk) w (w2.setCell ⟨c.wk, 1, none⟩ (.iface 42 (.int .i64 12)))) :=
  (Kept.of_below (HB0.out.drew.trans (hmb.mono HB0.out.drew.size)) _).trans (Kept.setCell _ _ _ rfl)
 clear hmb HM HC wb2 HB0 g0
 go_wp2
 go_ret
 exact ⟨rfl, HE.out, HK.out⟩
end
end Go.Proofs.YtbklgjmkdhinpaaGreatDoor.Fm
