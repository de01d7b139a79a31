/- check: what it asks. -/
import Derived.Shelf.SlGeneric
import Derived.Shelf.SlSortCmp.NoneTotal
import Derived.Shelf.SlicesQ.Contains
import Derived.Shelf.SlicesE.Clone
import Derived.Shelf.Spec.SlicesInsertGrow
import Derived.Shelf.Spec.SlicesInsert
import Derived.Test.YtpmpnbbihmgdpaaGreatDoorProg
import Derived.Test.YtpmpnbbihmgdpaaGreatDoorCtSmall
import Derived.Laws.StructEq
import Derived.Test.YtpmpnbbihmgdpaaGreatDoorCtPlain
set_option maxHeartbeats 1000000
set_option maxRecDepth 100000
namespace Go.Proofs
open Go.Shelf
def Tryz.sortItem_ren : Go.Shelf.Ren := ⟨fun | 6 => 181 | 15 => 146 | 14 => 219 | 28 => 199 | 29 => 200 | 20 => 238 | 21 => 239 | 22 => 240 | 23 => 241 | 24 => 242 | 25 => 243 | 26 => 244 | 27 => 245 | 46 => 261 | 47 => 262 | 48 => 263 | 49 => 264 | 50 => 265 | 57 => 273 | n => n, fun | 22 => 176 | 24 => 182 | 25 => 296 | 3 => 3 | 39 => 69 | 0 => 0 | 53 => 316 | 55 => 318 | 4 => 4 | 46 => 347 | 45 => 346 | 50 => 227 | 5 => 5 | 9 => 9 | 66 => 366 | 70 => 369 | 76 => 376 | 77 => 150 | n => n, fun | n => n⟩
theorem Tryz.sortItem : Go.Proofs.SlLaysF0.n6 Tryz.prog Tryz.sortItem_ren := {
 mixed := by kernel_rfl
 f6 := ⟨Tryz.f181.name, by decide, Tryz.func181.trans (congrArg some (by kernel_rfl))⟩
 f14 := ⟨Tryz.f219.name, by decide, Tryz.func219.trans (congrArg some (by kernel_rfl))⟩
 f15 := Tryz.func146.trans (congrArg some (by kernel_rfl))
 f20 := ⟨Tryz.f238.name, by decide, Tryz.func238.trans (congrArg some (by kernel_rfl))⟩
 f21 := ⟨Tryz.f239.name, by decide, Tryz.func239.trans (congrArg some (by kernel_rfl))⟩
 f22 := ⟨Tryz.f240.name, by decide, Tryz.func240.trans (congrArg some (by kernel_rfl))⟩
 f23 := ⟨Tryz.f241.name, by decide, Tryz.func241.trans (congrArg some (by kernel_rfl))⟩
 f24 := ⟨Tryz.f242.name, by decide, Tryz.func242.trans (congrArg some (by kernel_rfl))⟩
 f25 := ⟨Tryz.f243.name, by decide, Tryz.func243.trans (congrArg some (by kernel_rfl))⟩
 f26 := ⟨Tryz.f244.name, by decide, Tryz.func244.trans (congrArg some (by kernel_rfl))⟩
 f27 := ⟨Tryz.f245.name, by decide, Tryz.func245.trans (congrArg some (by kernel_rfl))⟩
 f28 := Tryz.func199.trans (congrArg some (by kernel_rfl))
 f29 := Tryz.func200.trans (congrArg some (by kernel_rfl))
 f46 := ⟨Tryz.f261.name, by decide, Tryz.func261.trans (congrArg some (by kernel_rfl))⟩
 f47 := Tryz.func262.trans (congrArg some (by kernel_rfl))
 f48 := Tryz.func263.trans (congrArg some (by kernel_rfl))
 f49 := ⟨Tryz.f264.name, by decide, Tryz.func264.trans (congrArg some (by kernel_rfl))⟩
 f50 := ⟨Tryz.f265.name, by decide, Tryz.func265.trans (congrArg some (by kernel_rfl))⟩
 f57 := ⟨Tryz.f273.name, by decide, Tryz.func273.trans (congrArg some (by kernel_rfl))⟩
 t0 := Tryz.underlying0
 a0 := Tryz.isAgg0
 z0 := Tryz.sizeOf0
 v0 := Tryz.zeroValue0
 t3 := Tryz.underlying3
 a3 := Tryz.isAgg3
 z3 := Tryz.sizeOf3
 v3 := Tryz.zeroValue3
 t4 := Tryz.underlying4
 a4 := Tryz.isAgg4
 z4 := Tryz.sizeOf4
 v4 := Tryz.zeroValue4
 t5 := Tryz.underlying5
 a5 := Tryz.isAgg5
 z5 := Tryz.sizeOf5
 v5 := Tryz.zeroValue5
 t9 := Tryz.underlying9
 a9 := Tryz.isAgg9
 z9 := Tryz.sizeOf9
 v9 := Tryz.zeroValue9
 t22 := Tryz.underlying176
 a22 := Tryz.isAgg176
 z22 := Tryz.sizeOf176
 v22 := Tryz.zeroValue176
 t25 := Tryz.underlying296
 a25 := Tryz.isAgg296
 z25 := Tryz.sizeOf296
 v25 := Tryz.zeroValue296
 t39 := Tryz.underlying69
 a39 := Tryz.isAgg69
 z39 := Tryz.sizeOf69
 v39 := Tryz.zeroValue69
 t45 := Tryz.underlying346
 a45 := Tryz.isAgg346
 z45 := Tryz.sizeOf346
 v45 := Tryz.zeroValue346
 t46 := Tryz.underlying347
 a46 := Tryz.isAgg347
 z46 := Tryz.sizeOf347
 v46 := Tryz.zeroValue347
 t50 := Tryz.underlying227
 a50 := Tryz.isAgg227
 z50 := Tryz.sizeOf227
 v50 := Tryz.zeroValue227
 t53 := Tryz.underlying316
 a53 := Tryz.isAgg316
 z53 := Tryz.sizeOf316
 v53 := Tryz.zeroValue316
 t55 := Tryz.underlying318
 a55 := Tryz.isAgg318
 z55 := Tryz.sizeOf318
 v55 := Tryz.zeroValue318
 t66 := Tryz.underlying366
 a66 := Tryz.isAgg366
 z66 := Tryz.sizeOf366
 v66 := Tryz.zeroValue366
 t70 := Tryz.underlying369
 a70 := Tryz.isAgg369
 z70 := Tryz.sizeOf369
 v70 := Tryz.zeroValue369
 t76 := Tryz.underlying376
 a76 := Tryz.isAgg376
 z76 := Tryz.sizeOf376
 v76 := Tryz.zeroValue376
 t77 := Tryz.underlying150
 a77 := Tryz.isAgg150
 z77 := Tryz.sizeOf150
 v77 := Tryz.zeroValue150 }
def Tryz.ixItem_ren : Go.Shelf.Ren := ⟨fun | 6 => 97 | n => n, fun | 22 => 176 | 24 => 182 | 3 => 3 | 0 => 0 | 4 => 4 | n => n, fun | n => n⟩
theorem Tryz.ixItem : Go.Proofs.SlLaysQ.n6 Tryz.prog Tryz.ixItem_ren := {
 mixed := by kernel_rfl
 f6 := ⟨Tryz.f97.name, by decide, Tryz.func97.trans (congrArg some (by kernel_rfl))⟩
 t0 := Tryz.underlying0
 a0 := Tryz.isAgg0
 z0 := Tryz.sizeOf0
 v0 := Tryz.zeroValue0
 t3 := Tryz.underlying3
 a3 := Tryz.isAgg3
 z3 := Tryz.sizeOf3
 v3 := Tryz.zeroValue3
 t4 := Tryz.underlying4
 a4 := Tryz.isAgg4
 z4 := Tryz.sizeOf4
 v4 := Tryz.zeroValue4
 t22 := Tryz.underlying176
 a22 := Tryz.isAgg176
 z22 := Tryz.sizeOf176
 v22 := Tryz.zeroValue176 }
def Tryz.hasItem_ren : Go.Shelf.Ren := ⟨fun | 7 => 180 | 6 => 97 | n => n, fun | 22 => 176 | 24 => 182 | 4 => 4 | 0 => 0 | 3 => 3 | n => n, fun | n => n⟩
theorem Tryz.hasItem : Go.Proofs.SlLaysQ.n7 Tryz.prog Tryz.hasItem_ren := {
 mixed := by kernel_rfl
 f6 := ⟨Tryz.f97.name, by decide, Tryz.func97.trans (congrArg some (by kernel_rfl))⟩
 f7 := ⟨Tryz.f180.name, by decide, Tryz.func180.trans (congrArg some (by kernel_rfl))⟩
 t0 := Tryz.underlying0
 a0 := Tryz.isAgg0
 z0 := Tryz.sizeOf0
 v0 := Tryz.zeroValue0
 t3 := Tryz.underlying3
 a3 := Tryz.isAgg3
 z3 := Tryz.sizeOf3
 v3 := Tryz.zeroValue3
 t4 := Tryz.underlying4
 a4 := Tryz.isAgg4
 z4 := Tryz.sizeOf4
 v4 := Tryz.zeroValue4
 t22 := Tryz.underlying176
 a22 := Tryz.isAgg176
 z22 := Tryz.sizeOf176
 v22 := Tryz.zeroValue176 }
def Tryz.clnLine_ren : Go.Shelf.Ren := ⟨fun | 41 => 96 | n => n, fun | 22 => 92 | 23 => 98 | 4 => 4 | n => n, fun | n => n⟩
theorem Tryz.clnLine : Go.Proofs.SlLaysE0.n41 Tryz.prog Tryz.clnLine_ren := {
 mixed := by kernel_rfl
 f41 := ⟨Tryz.f96.name, by decide, Tryz.func96.trans (congrArg some (by kernel_rfl))⟩
 t4 := Tryz.underlying4
 a4 := Tryz.isAgg4
 z4 := Tryz.sizeOf4
 v4 := Tryz.zeroValue4
 t22 := Tryz.underlying92
 a22 := Tryz.isAgg92
 z22 := Tryz.sizeOf92
 v22 := Tryz.zeroValue92 }
def Tryz.clnItem_ren : Go.Shelf.Ren := ⟨fun | 41 => 185 | n => n, fun | 22 => 176 | 23 => 182 | 4 => 4 | n => n, fun | n => n⟩
theorem Tryz.clnItem : Go.Proofs.SlLaysE0.n41 Tryz.prog Tryz.clnItem_ren := {
 mixed := by kernel_rfl
 f41 := ⟨Tryz.f185.name, by decide, Tryz.func185.trans (congrArg some (by kernel_rfl))⟩
 t4 := Tryz.underlying4
 a4 := Tryz.isAgg4
 z4 := Tryz.sizeOf4
 v4 := Tryz.zeroValue4
 t22 := Tryz.underlying176
 a22 := Tryz.isAgg176
 z22 := Tryz.sizeOf176
 v22 := Tryz.zeroValue176 }
def Tryz.insInt_ren : Go.Shelf.Ren := ⟨fun | 21 => 130 | 27 => 186 | 28 => 187 | 35 => 222 | 39 => 248 | n => n, fun | 22 => 31 | 3 => 3 | 4 => 4 | 0 => 0 | n => n, fun | n => n⟩
theorem Tryz.insInt : Go.Proofs.Lays2.n21 Tryz.prog Tryz.insInt_ren := {
 mixed := by kernel_rfl
 f21 := Tryz.func130.trans (congrArg some (by kernel_rfl))
 f27 := Tryz.func186.trans (congrArg some (by kernel_rfl))
 f28 := Tryz.func187.trans (congrArg some (by kernel_rfl))
 f35 := Tryz.func222.trans (congrArg some (by kernel_rfl))
 f39 := Tryz.func248.trans (congrArg some (by kernel_rfl))
 t0 := Tryz.underlying0
 a0 := Tryz.isAgg0
 z0 := Tryz.sizeOf0
 v0 := Tryz.zeroValue0
 t3 := Tryz.underlying3
 a3 := Tryz.isAgg3
 z3 := Tryz.sizeOf3
 v3 := Tryz.zeroValue3
 t4 := Tryz.underlying4
 a4 := Tryz.isAgg4
 z4 := Tryz.sizeOf4
 v4 := Tryz.zeroValue4
 t22 := Tryz.underlying31
 a22 := Tryz.isAgg31
 z22 := Tryz.sizeOf31
 v22 := Tryz.zeroValue31
 i3 := by kernel_rfl }
end Go.Proofs
namespace Go.Proofs.YtpmpnbbihmgdpaaGreatDoor
section
open Go.RowKit Go.Shelf Go.Lib Sv
theorem eq3 (a b c a' b' c' : Int) (w : World) : (Op.equalIn 9999 23 (.agg #[.int .i64 a, .int .i64 b, .int .i64 c]) (.agg #[.int .i64 a', .int .i64 b', .int .i64 c'])).run Tryz.prog w = .ok (a == a' && (b == b' && c == c')) w := by
 have u3 := Tryz.underlying3
 have a3 := Tryz.isAgg3
 have z3 := Tryz.sizeOf3
 rw [show (9999 : Nat) = 9998 + 1 from rfl, Op.equalIn]
 simp only [Sem.run_bind, run_underlying Tryz.underlying23, Result.andThen_ok]
 simp only [Std.Legacy.Range.forIn_eq_forIn_range', Std.Legacy.Range.size, Nat.sub_zero, Nat.add_sub_cancel, Nat.div_one, List.range'_succ, List.range'_zero, List.forIn_cons, List.forIn_nil]
 by_cases h1 : a = a'
 ·by_cases h2 : b = b'
  ·by_cases h3 : c = c'
   ·subst h1 h2 h3; go_simp
   ·have e3 : (c == c') = false := by simpa using h3
    subst h1 h2; go_simp
  ·have e2 : (b == b') = false := by simpa using h2
   subst h1; go_simp
 ·have e1 : (a == a') = false := by simpa using h1
  go_simp
theorem eqIt : EqlAt Tryz.prog 182 (fun x => .agg (encIt x).toArray) (fun x y => decide (x = y)) := by
 refine ⟨fun x y w => ?_, GuardAt.agg _ (by kernel_rfl)⟩
 have u3 := Tryz.underlying3
 have a3 := Tryz.isAgg3
 have z3 := Tryz.sizeOf3
 have u9 := Tryz.underlying9
 have a9 := Tryz.isAgg9
 have z9 := Tryz.sizeOf9
 have av := Tryz.isAgg23
 have zv := Tryz.sizeOf23
 have hS : Tryz.prog.underlying 182 = some (.struct (Tryz.prog.fieldsOf 182)) := by kernel_rfl
 have hp : Tryz.prog.stoodInHeld 182 = false := by kernel_rfl
 have he : decide (x = y) = (x.name.toList == y.name.toList && (x.a == y.a && (x.b == y.b && x.c == y.c))) := by
  obtain ⟨n, a, b, c⟩ := x
  obtain ⟨n', a', b', c'⟩ := y
  rw [Bool.eq_iff_iff]
  simp only [decide_eq_true_eq, It.mk.injEq, Bool.and_eq_true, beq_iff_eq]
  constructor
  ·rintro ⟨rfl, rfl, rfl, rfl⟩; exact ⟨rfl, rfl, rfl, rfl⟩
  ·rintro ⟨h, rfl, rfl, rfl⟩; exact ⟨bytes_eq h, rfl, rfl, rfl⟩
 show (binOp .eql 182 (.agg (encIt x).toArray) (.agg (encIt y).toArray)).run Tryz.prog w = .ok (.bool (decide (x = y))) w
 rw [he]
 simp only [encIt]
 have h3 := eq3 x.a x.b x.c y.a y.b y.c
 generalize x.name = n at *
 generalize y.name = n' at *
 generalize x.a = a at *
 generalize x.b = b at *
 generalize x.c = c at *
 generalize y.a = a' at *
 generalize y.b = b' at *
 generalize y.c = c' at *
 generalize (a == a' && (b == b' && c == c')) = q at *
 clear he
 rw [run_eql_struct, show (10000 : Nat) = 9999 + 1 from rfl, run_equalIn_agg w 9999 182 _ _ hS hp]
 simp only [Program.fieldsOf, Tryz.underlying182]
 cases hn : (n.toList == n'.toList) <;> cases q <;> go_simp
end
section
open Go.RowKit Sv
theorem has_out0neg (va : Option Addr) (vl vc : Nat) (a b c : Int) (hx : a < 0) (w : World) :
  Calls Tryz.prog 98 #[.agg #[.slice va vl vc], .agg #[.int .i64 a, .int .i64 b, .int .i64 c]] w fun e w' => e = .returned (.bool false) /\ Below w.heap.size w w' := by
 have hB0 : Below w.heap.size w ((w.alloc (.cells #[.slice va vl vc] 96)).alloc (.cells #[.int .i64 a, .int .i64 b, .int .i64 c] 23)) := ((Below.refl _ w).alloc (Nat.le_refl _) _).alloc (by simp only [World.size_alloc]; omega) _
 have HB0 := Lib.hid hB0
 clear hB0
 go_enter Tryz.func98, Tryz.ntmps98
 go_wp2_with fail
 generalize (w.alloc (.cells #[.slice va vl vc] 96)).alloc (.cells #[.int .i64 a, .int .i64 b, .int .i64 c] 23) = W0 at *
 go_loop [10] (fun i => ∃ k : Nat, k <= 0 /\ i = .int .i64 (k : Int)) (fun i => 3 - (intOf i).toNat)
 case atStart => exact ⟨0, by omega, rfl⟩
 case round =>
  obtain ⟨k, hk, rfl⟩ := hrel
  match k, hk with
  | 0, _ =>
   have hix := idx0 a b c W0
   go_wp2
   go_ret
   exact ⟨rfl, HB0.out⟩
theorem has_out0big (va : Option Addr) (vl vc : Nat) (a b c : Int) (hx0 : ¬ a < 0) (hx : 999 < a) (w : World) :
  Calls Tryz.prog 98 #[.agg #[.slice va vl vc], .agg #[.int .i64 a, .int .i64 b, .int .i64 c]] w fun e w' => e = .returned (.bool false) /\ Below w.heap.size w w' := by
 have hB0 : Below w.heap.size w ((w.alloc (.cells #[.slice va vl vc] 96)).alloc (.cells #[.int .i64 a, .int .i64 b, .int .i64 c] 23)) := ((Below.refl _ w).alloc (Nat.le_refl _) _).alloc (by simp only [World.size_alloc]; omega) _
 have HB0 := Lib.hid hB0
 clear hB0
 go_enter Tryz.func98, Tryz.ntmps98
 go_wp2_with fail
 generalize (w.alloc (.cells #[.slice va vl vc] 96)).alloc (.cells #[.int .i64 a, .int .i64 b, .int .i64 c] 23) = W0 at *
 go_loop [10] (fun i => ∃ k : Nat, k <= 0 /\ i = .int .i64 (k : Int)) (fun i => 3 - (intOf i).toNat)
 case atStart => exact ⟨0, by omega, rfl⟩
 case round =>
  obtain ⟨k, hk, rfl⟩ := hrel
  match k, hk with
  | 0, _ =>
   have hix := idx0 a b c W0
   go_wp2
   go_ret
   exact ⟨rfl, HB0.out⟩
theorem has_out1neg (va : Option Addr) (vl vc : Nat) (a b c : Int) (ha0 : ¬ a < 0) (ha1 : ¬ 999 < a) (hx : b < 0) (w : World) :
  Calls Tryz.prog 98 #[.agg #[.slice va vl vc], .agg #[.int .i64 a, .int .i64 b, .int .i64 c]] w fun e w' => e = .returned (.bool false) /\ Below w.heap.size w w' := by
 have hB0 : Below w.heap.size w ((w.alloc (.cells #[.slice va vl vc] 96)).alloc (.cells #[.int .i64 a, .int .i64 b, .int .i64 c] 23)) := ((Below.refl _ w).alloc (Nat.le_refl _) _).alloc (by simp only [World.size_alloc]; omega) _
 have HB0 := Lib.hid hB0
 clear hB0
 go_enter Tryz.func98, Tryz.ntmps98
 go_wp2_with fail
 generalize (w.alloc (.cells #[.slice va vl vc] 96)).alloc (.cells #[.int .i64 a, .int .i64 b, .int .i64 c] 23) = W0 at *
 go_loop [10] (fun i => ∃ k : Nat, k <= 1 /\ i = .int .i64 (k : Int)) (fun i => 3 - (intOf i).toNat)
 case atStart => exact ⟨0, by omega, rfl⟩
 case round =>
  obtain ⟨k, hk, rfl⟩ := hrel
  match k, hk with
  | 0, _ =>
   have hix := idx0 a b c W0
   go_wp2
   go_round
   case rel => exact ⟨1, by omega, rfl⟩
   case measure => simp [intOf]
  | 1, _ =>
   have hix := idx1 a b c W0
   go_wp2
   go_ret
   exact ⟨rfl, HB0.out⟩
theorem has_out1big (va : Option Addr) (vl vc : Nat) (a b c : Int) (ha0 : ¬ a < 0) (ha1 : ¬ 999 < a) (hx0 : ¬ b < 0) (hx : 999 < b) (w : World) :
  Calls Tryz.prog 98 #[.agg #[.slice va vl vc], .agg #[.int .i64 a, .int .i64 b, .int .i64 c]] w fun e w' => e = .returned (.bool false) /\ Below w.heap.size w w' := by
 have hB0 : Below w.heap.size w ((w.alloc (.cells #[.slice va vl vc] 96)).alloc (.cells #[.int .i64 a, .int .i64 b, .int .i64 c] 23)) := ((Below.refl _ w).alloc (Nat.le_refl _) _).alloc (by simp only [World.size_alloc]; omega) _
 have HB0 := Lib.hid hB0
 clear hB0
 go_enter Tryz.func98, Tryz.ntmps98
 go_wp2_with fail
 generalize (w.alloc (.cells #[.slice va vl vc] 96)).alloc (.cells #[.int .i64 a, .int .i64 b, .int .i64 c] 23) = W0 at *
 go_loop [10] (fun i => ∃ k : Nat, k <= 1 /\ i = .int .i64 (k : Int)) (fun i => 3 - (intOf i).toNat)
 case atStart => exact ⟨0, by omega, rfl⟩
 case round =>
  obtain ⟨k, hk, rfl⟩ := hrel
  match k, hk with
  | 0, _ =>
   have hix := idx0 a b c W0
   go_wp2
   go_round
   case rel => exact ⟨1, by omega, rfl⟩
   case measure => simp [intOf]
  | 1, _ =>
   have hix := idx1 a b c W0
   go_wp2
   go_ret
   exact ⟨rfl, HB0.out⟩
theorem has_out2neg (va : Option Addr) (vl vc : Nat) (a b c : Int) (ha0 : ¬ a < 0) (ha1 : ¬ 999 < a) (hb0 : ¬ b < 0) (hb1 : ¬ 999 < b) (hx : c < 0) (w : World) :
  Calls Tryz.prog 98 #[.agg #[.slice va vl vc], .agg #[.int .i64 a, .int .i64 b, .int .i64 c]] w fun e w' => e = .returned (.bool false) /\ Below w.heap.size w w' := by
 have hB0 : Below w.heap.size w ((w.alloc (.cells #[.slice va vl vc] 96)).alloc (.cells #[.int .i64 a, .int .i64 b, .int .i64 c] 23)) := ((Below.refl _ w).alloc (Nat.le_refl _) _).alloc (by simp only [World.size_alloc]; omega) _
 have HB0 := Lib.hid hB0
 clear hB0
 go_enter Tryz.func98, Tryz.ntmps98
 go_wp2_with fail
 generalize (w.alloc (.cells #[.slice va vl vc] 96)).alloc (.cells #[.int .i64 a, .int .i64 b, .int .i64 c] 23) = W0 at *
 go_loop [10] (fun i => ∃ k : Nat, k <= 2 /\ i = .int .i64 (k : Int)) (fun i => 3 - (intOf i).toNat)
 case atStart => exact ⟨0, by omega, rfl⟩
 case round =>
  obtain ⟨k, hk, rfl⟩ := hrel
  match k, hk with
  | 0, _ =>
   have hix := idx0 a b c W0
   go_wp2
   go_round
   case rel => exact ⟨1, by omega, rfl⟩
   case measure => simp [intOf]
  | 1, _ =>
   have hix := idx1 a b c W0
   go_wp2
   go_round
   case rel => exact ⟨2, by omega, rfl⟩
   case measure => simp [intOf]
  | 2, _ =>
   have hix := idx2 a b c W0
   go_wp2
   go_ret
   exact ⟨rfl, HB0.out⟩
theorem has_out2big (va : Option Addr) (vl vc : Nat) (a b c : Int) (ha0 : ¬ a < 0) (ha1 : ¬ 999 < a) (hb0 : ¬ b < 0) (hb1 : ¬ 999 < b) (hx0 : ¬ c < 0) (hx : 999 < c) (w : World) :
  Calls Tryz.prog 98 #[.agg #[.slice va vl vc], .agg #[.int .i64 a, .int .i64 b, .int .i64 c]] w fun e w' => e = .returned (.bool false) /\ Below w.heap.size w w' := by
 have hB0 : Below w.heap.size w ((w.alloc (.cells #[.slice va vl vc] 96)).alloc (.cells #[.int .i64 a, .int .i64 b, .int .i64 c] 23)) := ((Below.refl _ w).alloc (Nat.le_refl _) _).alloc (by simp only [World.size_alloc]; omega) _
 have HB0 := Lib.hid hB0
 clear hB0
 go_enter Tryz.func98, Tryz.ntmps98
 go_wp2_with fail
 generalize (w.alloc (.cells #[.slice va vl vc] 96)).alloc (.cells #[.int .i64 a, .int .i64 b, .int .i64 c] 23) = W0 at *
 go_loop [10] (fun i => ∃ k : Nat, k <= 2 /\ i = .int .i64 (k : Int)) (fun i => 3 - (intOf i).toNat)
 case atStart => exact ⟨0, by omega, rfl⟩
 case round =>
  obtain ⟨k, hk, rfl⟩ := hrel
  match k, hk with
  | 0, _ =>
   have hix := idx0 a b c W0
   go_wp2
   go_round
   case rel => exact ⟨1, by omega, rfl⟩
   case measure => simp [intOf]
  | 1, _ =>
   have hix := idx1 a b c W0
   go_wp2
   go_round
   case rel => exact ⟨2, by omega, rfl⟩
   case measure => simp [intOf]
  | 2, _ =>
   have hix := idx2 a b c W0
   go_wp2
   go_ret
   exact ⟨rfl, HB0.out⟩
theorem has_out (va : Option Addr) (vl vc : Nat) (a b c : Int) (h : ¬ ((0 <= a /\ a <= 999) /\ (0 <= b /\ b <= 999) /\ (0 <= c /\ c <= 999))) (w : World) :
  Calls Tryz.prog 98 #[.agg #[.slice va vl vc], .agg #[.int .i64 a, .int .i64 b, .int .i64 c]] w fun e w' => e = .returned (.bool false) /\ Below w.heap.size w w' := by
 by_cases a0 : a < 0
 ·exact has_out0neg va vl vc a b c a0 w
 by_cases a1 : 999 < a
 ·exact has_out0big va vl vc a b c a0 a1 w
 by_cases b0 : b < 0
 ·exact has_out1neg va vl vc a b c a0 a1 b0 w
 by_cases b1 : 999 < b
 ·exact has_out1big va vl vc a b c a0 a1 b0 b1 w
 by_cases c0 : c < 0
 ·exact has_out2neg va vl vc a b c a0 a1 b0 b1 c0 w
 by_cases c1 : 999 < c
 ·exact has_out2big va vl vc a b c a0 a1 b0 b1 c0 c1 w
 exact absurd ⟨⟨by omega, by omega⟩, ⟨by omega, by omega⟩, ⟨by omega, by omega⟩⟩ h
end
section
open Go.RowKit Sv
theorem name_yes (s : ByteArray) (w : World) (h : NameOk s) : Calls Tryz.prog 217 #[.string s] w fun e w' => e = .returned (.bool true) /\ w = w' := (name_any s w).mono fun _ _ ⟨h1, h2⟩ => ⟨h1.1 h, h2⟩
theorem name_no (s : ByteArray) (w : World) (h : ¬ NameOk s) : Calls Tryz.prog 217 #[.string s] w fun e w' => e = .returned (.bool false) /\ w = w' := (name_any s w).mono fun _ _ ⟨h1, h2⟩ => ⟨h1.2 h, h2⟩
open Classical in
theorem hasv (l : List Span) (hl : Rg l) (va : Option Addr) (vc : Nat) (x : It) (w : World) (hv : SpAt w (.slice va l.length vc) l) :
  Calls Tryz.prog 98 #[.agg #[.slice va l.length vc], .agg #[.int .i64 x.a, .int .i64 x.b, .int .i64 x.c]] w fun e w' => e = .returned (.bool (decide (hasF l x))) /\ Below w.heap.size w w' := by
 by_cases h : InV x.a x.b x.c
 ·obtain ⟨n, a, b, c⟩ := x
  obtain ⟨a', rfl⟩ : ∃ a' : Nat, a = (a' : Int) := ⟨a.toNat, by have := h.1; simp only at this; omega⟩
  obtain ⟨b', rfl⟩ : ∃ b' : Nat, b = (b' : Int) := ⟨b.toNat, by have := h.2.1; simp only at this; omega⟩
  obtain ⟨c', rfl⟩ : ∃ c' : Nat, c = (c' : Int) := ⟨c.toNat, by have := h.2.2; simp only at this; omega⟩
  have h1 := h.1; have h2 := h.2.1; have h3 := h.2.2
  simp only at h1 h2 h3
  refine (has_any l hl (.slice va l.length vc) a' b' c' (by omega) (by omega) (by omega) w hv).mono fun e w' ⟨B, he, hB, hb⟩ => ⟨?_, hb⟩
  rw [he]
  congr 2
  rw [Bool.eq_iff_iff, hB, decide_eq_true_eq]
  unfold hasF
  simp only [Int.toNat_natCast]
  exact ⟨fun h' => ⟨h, h'⟩, fun h' => h'.2⟩
 ·refine (has_out va l.length vc x.a x.b x.c h w).mono fun e w' ⟨he, hb⟩ => ⟨?_, hb⟩
  rw [he]
  congr 2
  symm
  rw [decide_eq_false_iff_not]
  exact fun h' => h h'.1
theorem anyhas (va : Option Addr) (vc : Nat) (a b c : Int) (w : World) (hv : SpAt w (.slice va anyF.length vc) anyF) :
  Calls Tryz.prog 98 #[.agg #[.slice va anyF.length vc], .agg #[.int .i64 a, .int .i64 b, .int .i64 c]] w fun e w' => e = .returned (.bool (decide (InV a b c))) /\ Below w.heap.size w w' := by
 refine (hasv anyF rg_any va vc ⟨⟨#[]⟩, a, b, c⟩ w hv).mono fun e w' ⟨he, hb⟩ => ⟨?_, hb⟩
 rw [he]
 congr 2
 rw [Bool.eq_iff_iff]
 simp only [decide_eq_true_eq]
 unfold hasF
 constructor
 ·exact fun h => h.1
 ·intro h
  refine ⟨h, mem_any.2 ?_⟩
  obtain ⟨h1, h2, h3⟩ := h
  simp only
  unfold numV ALL
  omega
theorem empty_yes (ra : Option Addr) (rc : Nat) (w : World) : Calls Tryz.prog 218 #[.agg #[.slice ra 0 rc]] w fun e w' => e = .returned (.bool true) /\ Below w.heap.size w w' := by
 have hB : Hid (Below w.heap.size w (w.alloc (.cells #[.slice ra 0 rc] 96))) := (Below.refl _ w).alloc (Nat.le_refl _) _
 go_enter Tryz.func218, Tryz.ntmps218
 go_wp2
 go_ret
 exact ⟨rfl, hB.out⟩
theorem empty_no (ra : Option Addr) (rn rc : Nat) (w : World) (h : 0 < rn) : Calls Tryz.prog 218 #[.agg #[.slice ra rn rc]] w fun e w' => e = .returned (.bool false) /\ Below w.heap.size w w' := by
 have hB : Hid (Below w.heap.size w (w.alloc (.cells #[.slice ra rn rc] 96))) := (Below.refl _ w).alloc (Nat.le_refl _) _
 have hz : ((rn : Int) == 0) = false := by rw [beq_eq_false_iff_ne]; omega
 go_enter Tryz.func218, Tryz.ntmps218
 go_wp2
 go_ret
 exact ⟨rfl, hB.out⟩
theorem eq3t (a b c a' b' c' : Int) (w : World) : (Op.equalIn 10000 23 (.agg #[.int .i64 a, .int .i64 b, .int .i64 c]) (.agg #[.int .i64 a', .int .i64 b', .int .i64 c'])).run Tryz.prog w = .ok (a == a' && (b == b' && c == c')) w := by
 have u3 := Tryz.underlying3
 have a3 := Tryz.isAgg3
 have z3 := Tryz.sizeOf3
 rw [show (10000 : Nat) = 9999 + 1 from rfl, Op.equalIn]
 simp only [Sem.run_bind, run_underlying Tryz.underlying23, Result.andThen_ok]
 simp only [Std.Legacy.Range.forIn_eq_forIn_range', Std.Legacy.Range.size, Nat.sub_zero, Nat.add_sub_cancel, Nat.div_one, List.range'_succ, List.range'_zero, List.forIn_cons, List.forIn_nil]
 by_cases h1 : a = a'
 ·by_cases h2 : b = b'
  ·by_cases h3 : c = c'
   ·subst h1 h2 h3; go_simp
   ·have e3 : (c == c') = false := by simpa using h3
    subst h1 h2; go_simp
  ·have e2 : (b == b') = false := by simpa using h2
   subst h1; go_simp
 ·have e1 : (a == a') = false := by simpa using h1
  go_simp
end
end Go.Proofs.YtpmpnbbihmgdpaaGreatDoor
