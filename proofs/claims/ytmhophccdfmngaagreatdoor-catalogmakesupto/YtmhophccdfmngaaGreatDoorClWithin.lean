/- within; and plain facts. -/
import Derived.Test.YtmhophccdfmngaaGreatDoorCtMap
import Derived.Test.YtmhophccdfmngaaGreatDoorSvMem
import Derived.Shelf.SlGeneric
import Derived.Shelf.SlSortCmp.NoneTotal
import Derived.Shelf.SlicesQ.Contains
import Derived.Shelf.SlicesE.Clone
import Derived.Shelf.Spec.SlicesInsertGrow
import Derived.Shelf.Spec.SlicesInsert
import Derived.Test.YtmhophccdfmngaaGreatDoorProg
import Derived.Laws.StructEq
import Derived.Test.YtmhophccdfmngaaGreatDoorClBaseI
import Derived.Test.YtmhophccdfmngaaGreatDoorErErrs
import Derived.Lib.Hide
import Derived.WalkSmall
set_option maxHeartbeats 1000000
set_option maxRecDepth 100000
namespace Go.Proofs.YtmhophccdfmngaaGreatDoor
open Go.RowKit Sv
theorem pair_any (x : Ln) (v : Value) (w : World) :
  Calls Tryz.prog 87 #[.agg #[.int .i64 x.kind, .string x.name, .int .i64 x.a, .int .i64 x.b, .int .i64 x.c, .string x.other, v]] w fun e w' => e = .returned (.bool (decide x.pair)) /\ w' = w.alloc (.cells #[.int .i64 x.kind, .string x.name, .int .i64 x.a, .int .i64 x.b, .int .i64 x.c, .string x.other, v] 76) := by
 have hd : decide x.pair = (decide (x.kind = 2) || decide (x.kind = 3)) := by
  by_cases h2 : x.kind = 2 <;> by_cases h3 : x.kind = 3 <;> simp [Ln.pair, h2, h3]
 rw [hd]
 clear hd
 generalize x.kind = k
 by_cases h2 : k = 2
 ·subst h2
  go_enter Tryz.func87, Tryz.ntmps87
  go_wp2
  go_ret
  exact ⟨rfl, rfl⟩
 ·by_cases h3 : k = 3
  ·subst h3
   go_enter Tryz.func87, Tryz.ntmps87
   go_wp2
   go_ret
   exact ⟨rfl, rfl⟩
  ·have e2 : (k == 2) = false := by simpa using h2
   have e3 : (k == 3) = false := by simpa using h3
   have HD : Hid ((decide (k = 2) || decide (k = 3)) = false) := by show _ = _; simp [h2, h3]
   go_enter Tryz.func87, Tryz.ntmps87
   go_wp2
   go_ret
   exact ⟨by rw [HD.out]; rfl, rfl⟩
def wl : Nat -> List UInt8
 | 1 => [112, 97, 99, 107, 97, 103, 101]
 | 2 => [110, 101, 101, 100, 115]
 | 3 => [99, 108, 97, 115, 104, 101, 115]
 | 4 => [114, 111, 111, 116]
 | _ => []
structure WordsAt (w : World) : Prop where
 c0 : w.cell? ⟨2, 0, none⟩ = some (.string ⟨#[]⟩)
 c1 : w.cell? ⟨2, 1, none⟩ = some (.string ⟨#[112, 97, 99, 107, 97, 103, 101]⟩)
 c2 : w.cell? ⟨2, 2, none⟩ = some (.string ⟨#[110, 101, 101, 100, 115]⟩)
 c3 : w.cell? ⟨2, 3, none⟩ = some (.string ⟨#[99, 108, 97, 115, 104, 101, 115]⟩)
 c4 : w.cell? ⟨2, 4, none⟩ = some (.string ⟨#[114, 111, 111, 116]⟩)
theorem WordsAt.below {B : Nat} {w w' : World} (h : WordsAt w) (hb : Below B w w') (hB : 2 < B) : WordsAt w' :=
 ⟨(hb.cell (p := ⟨2, 0, none⟩) hB).trans h.c0, (hb.cell (p := ⟨2, 1, none⟩) hB).trans h.c1, (hb.cell (p := ⟨2, 2, none⟩) hB).trans h.c2, (hb.cell (p := ⟨2, 3, none⟩) hB).trans h.c3, (hb.cell (p := ⟨2, 4, none⟩) hB).trans h.c4⟩
end Go.Proofs.YtmhophccdfmngaaGreatDoor
namespace Go.Proofs
open Go.Shelf
def Tryz.sortItem_ren : Go.Shelf.Ren := ⟨fun | 6 => 124 | 15 => 155 | 14 => 154 | 28 => 188 | 29 => 189 | 20 => 180 | 21 => 181 | 22 => 182 | 23 => 183 | 24 => 184 | 25 => 185 | 26 => 186 | 27 => 187 | 46 => 202 | 47 => 203 | 48 => 204 | 49 => 205 | 50 => 206 | 57 => 217 | n => n, fun | 22 => 64 | 24 => 71 | 25 => 200 | 3 => 3 | 39 => 105 | 0 => 0 | 53 => 258 | 55 => 260 | 4 => 4 | 46 => 252 | 45 => 251 | 50 => 208 | 5 => 5 | 9 => 9 | 66 => 278 | 70 => 282 | 76 => 299 | 77 => 300 | n => n, fun | n => n⟩
theorem Tryz.sortItem : Go.Proofs.SlLaysF0.n6 Tryz.prog Tryz.sortItem_ren := {
 mixed := by kernel_rfl
 f6 := ⟨Tryz.f124.name, by decide, Tryz.func124.trans (congrArg some (by kernel_rfl))⟩
 f14 := ⟨Tryz.f154.name, by decide, Tryz.func154.trans (congrArg some (by kernel_rfl))⟩
 f15 := Tryz.func155.trans (congrArg some (by kernel_rfl))
 f20 := ⟨Tryz.f180.name, by decide, Tryz.func180.trans (congrArg some (by kernel_rfl))⟩
 f21 := ⟨Tryz.f181.name, by decide, Tryz.func181.trans (congrArg some (by kernel_rfl))⟩
 f22 := ⟨Tryz.f182.name, by decide, Tryz.func182.trans (congrArg some (by kernel_rfl))⟩
 f23 := ⟨Tryz.f183.name, by decide, Tryz.func183.trans (congrArg some (by kernel_rfl))⟩
 f24 := ⟨Tryz.f184.name, by decide, Tryz.func184.trans (congrArg some (by kernel_rfl))⟩
 f25 := ⟨Tryz.f185.name, by decide, Tryz.func185.trans (congrArg some (by kernel_rfl))⟩
 f26 := ⟨Tryz.f186.name, by decide, Tryz.func186.trans (congrArg some (by kernel_rfl))⟩
 f27 := ⟨Tryz.f187.name, by decide, Tryz.func187.trans (congrArg some (by kernel_rfl))⟩
 f28 := Tryz.func188.trans (congrArg some (by kernel_rfl))
 f29 := Tryz.func189.trans (congrArg some (by kernel_rfl))
 f46 := ⟨Tryz.f202.name, by decide, Tryz.func202.trans (congrArg some (by kernel_rfl))⟩
 f47 := Tryz.func203.trans (congrArg some (by kernel_rfl))
 f48 := Tryz.func204.trans (congrArg some (by kernel_rfl))
 f49 := ⟨Tryz.f205.name, by decide, Tryz.func205.trans (congrArg some (by kernel_rfl))⟩
 f50 := ⟨Tryz.f206.name, by decide, Tryz.func206.trans (congrArg some (by kernel_rfl))⟩
 f57 := ⟨Tryz.f217.name, by decide, Tryz.func217.trans (congrArg some (by kernel_rfl))⟩
 t0 := Tryz.underlying0
 a0 := Tryz.isAgg0
 z0 := Tryz.sizeOf0
 v0 := Tryz.zeroValue0
 t3 := Tryz.underlying3
 a3 := Tryz.isAgg3
 z3 := Tryz.sizeOf3
 v3 := Tryz.zeroValue3
 t4 := Tryz.underlying4
 a4 := Tryz.isAgg4
 z4 := Tryz.sizeOf4
 v4 := Tryz.zeroValue4
 t5 := Tryz.underlying5
 a5 := Tryz.isAgg5
 z5 := Tryz.sizeOf5
 v5 := Tryz.zeroValue5
 t9 := Tryz.underlying9
 a9 := Tryz.isAgg9
 z9 := Tryz.sizeOf9
 v9 := Tryz.zeroValue9
 t22 := Tryz.underlying64
 a22 := Tryz.isAgg64
 z22 := Tryz.sizeOf64
 v22 := Tryz.zeroValue64
 t25 := Tryz.underlying200
 a25 := Tryz.isAgg200
 z25 := Tryz.sizeOf200
 v25 := Tryz.zeroValue200
 t39 := Tryz.underlying105
 a39 := Tryz.isAgg105
 z39 := Tryz.sizeOf105
 v39 := Tryz.zeroValue105
 t45 := Tryz.underlying251
 a45 := Tryz.isAgg251
 z45 := Tryz.sizeOf251
 v45 := Tryz.zeroValue251
 t46 := Tryz.underlying252
 a46 := Tryz.isAgg252
 z46 := Tryz.sizeOf252
 v46 := Tryz.zeroValue252
 t50 := Tryz.underlying208
 a50 := Tryz.isAgg208
 z50 := Tryz.sizeOf208
 v50 := Tryz.zeroValue208
 t53 := Tryz.underlying258
 a53 := Tryz.isAgg258
 z53 := Tryz.sizeOf258
 v53 := Tryz.zeroValue258
 t55 := Tryz.underlying260
 a55 := Tryz.isAgg260
 z55 := Tryz.sizeOf260
 v55 := Tryz.zeroValue260
 t66 := Tryz.underlying278
 a66 := Tryz.isAgg278
 z66 := Tryz.sizeOf278
 v66 := Tryz.zeroValue278
 t70 := Tryz.underlying282
 a70 := Tryz.isAgg282
 z70 := Tryz.sizeOf282
 v70 := Tryz.zeroValue282
 t76 := Tryz.underlying299
 a76 := Tryz.isAgg299
 z76 := Tryz.sizeOf299
 v76 := Tryz.zeroValue299
 t77 := Tryz.underlying300
 a77 := Tryz.isAgg300
 z77 := Tryz.sizeOf300
 v77 := Tryz.zeroValue300 }
def Tryz.ixItem_ren : Go.Shelf.Ren := ⟨fun | 6 => 93 | n => n, fun | 22 => 64 | 24 => 71 | 3 => 3 | 0 => 0 | 4 => 4 | n => n, fun | n => n⟩
theorem Tryz.ixItem : Go.Proofs.SlLaysQ.n6 Tryz.prog Tryz.ixItem_ren := {
 mixed := by kernel_rfl
 f6 := ⟨Tryz.f93.name, by decide, Tryz.func93.trans (congrArg some (by kernel_rfl))⟩
 t0 := Tryz.underlying0
 a0 := Tryz.isAgg0
 z0 := Tryz.sizeOf0
 v0 := Tryz.zeroValue0
 t3 := Tryz.underlying3
 a3 := Tryz.isAgg3
 z3 := Tryz.sizeOf3
 v3 := Tryz.zeroValue3
 t4 := Tryz.underlying4
 a4 := Tryz.isAgg4
 z4 := Tryz.sizeOf4
 v4 := Tryz.zeroValue4
 t22 := Tryz.underlying64
 a22 := Tryz.isAgg64
 z22 := Tryz.sizeOf64
 v22 := Tryz.zeroValue64 }
def Tryz.hasItem_ren : Go.Shelf.Ren := ⟨fun | 7 => 123 | 6 => 93 | n => n, fun | 22 => 64 | 24 => 71 | 4 => 4 | 0 => 0 | 3 => 3 | n => n, fun | n => n⟩
theorem Tryz.hasItem : Go.Proofs.SlLaysQ.n7 Tryz.prog Tryz.hasItem_ren := {
 mixed := by kernel_rfl
 f6 := ⟨Tryz.f93.name, by decide, Tryz.func93.trans (congrArg some (by kernel_rfl))⟩
 f7 := ⟨Tryz.f123.name, by decide, Tryz.func123.trans (congrArg some (by kernel_rfl))⟩
 t0 := Tryz.underlying0
 a0 := Tryz.isAgg0
 z0 := Tryz.sizeOf0
 v0 := Tryz.zeroValue0
 t3 := Tryz.underlying3
 a3 := Tryz.isAgg3
 z3 := Tryz.sizeOf3
 v3 := Tryz.zeroValue3
 t4 := Tryz.underlying4
 a4 := Tryz.isAgg4
 z4 := Tryz.sizeOf4
 v4 := Tryz.zeroValue4
 t22 := Tryz.underlying64
 a22 := Tryz.isAgg64
 z22 := Tryz.sizeOf64
 v22 := Tryz.zeroValue64 }
def Tryz.clnLine_ren : Go.Shelf.Ren := ⟨fun | 41 => 85 | n => n, fun | 22 => 54 | 23 => 76 | 4 => 4 | n => n, fun | n => n⟩
theorem Tryz.clnLine : Go.Proofs.SlLaysE0.n41 Tryz.prog Tryz.clnLine_ren := {
 mixed := by kernel_rfl
 f41 := ⟨Tryz.f85.name, by decide, Tryz.func85.trans (congrArg some (by kernel_rfl))⟩
 t4 := Tryz.underlying4
 a4 := Tryz.isAgg4
 z4 := Tryz.sizeOf4
 v4 := Tryz.zeroValue4
 t22 := Tryz.underlying54
 a22 := Tryz.isAgg54
 z22 := Tryz.sizeOf54
 v22 := Tryz.zeroValue54 }
def Tryz.clnItem_ren : Go.Shelf.Ren := ⟨fun | 41 => 89 | n => n, fun | 22 => 64 | 23 => 71 | 4 => 4 | n => n, fun | n => n⟩
theorem Tryz.clnItem : Go.Proofs.SlLaysE0.n41 Tryz.prog Tryz.clnItem_ren := {
 mixed := by kernel_rfl
 f41 := ⟨Tryz.f89.name, by decide, Tryz.func89.trans (congrArg some (by kernel_rfl))⟩
 t4 := Tryz.underlying4
 a4 := Tryz.isAgg4
 z4 := Tryz.sizeOf4
 v4 := Tryz.zeroValue4
 t22 := Tryz.underlying64
 a22 := Tryz.isAgg64
 z22 := Tryz.sizeOf64
 v22 := Tryz.zeroValue64 }
end Go.Proofs
namespace Go.Proofs.YtmhophccdfmngaaGreatDoor
open Go.RowKit Go.Shelf Go.Lib Sv
theorem eq3 (a b c a' b' c' : Int) (w : World) : (Op.equalIn 9999 42 (.agg #[.int .i64 a, .int .i64 b, .int .i64 c]) (.agg #[.int .i64 a', .int .i64 b', .int .i64 c'])).run Tryz.prog w = .ok (a == a' && (b == b' && c == c')) w := by
 have u3 := Tryz.underlying3
 have a3 := Tryz.isAgg3
 have z3 := Tryz.sizeOf3
 rw [show (9999 : Nat) = 9998 + 1 from rfl, Op.equalIn]
 simp only [Sem.run_bind, run_underlying Tryz.underlying42, Result.andThen_ok]
 simp only [Std.Legacy.Range.forIn_eq_forIn_range', Std.Legacy.Range.size, Nat.sub_zero, Nat.add_sub_cancel, Nat.div_one, List.range'_succ, List.range'_zero, List.forIn_cons, List.forIn_nil]
 by_cases h1 : a = a'
 ·by_cases h2 : b = b'
  ·by_cases h3 : c = c'
   ·subst h1 h2 h3; go_simp
   ·have e3 : (c == c') = false := by simpa using h3
    subst h1 h2; go_simp
  ·have e2 : (b == b') = false := by simpa using h2
   subst h1; go_simp
 ·have e1 : (a == a') = false := by simpa using h1
  go_simp
theorem eqIt : EqlAt Tryz.prog 71 (fun x => .agg (encIt x).toArray) (fun x y => decide (x = y)) := by
 refine ⟨fun x y w => ?_, GuardAt.agg _ (by kernel_rfl)⟩
 have u3 := Tryz.underlying3
 have a3 := Tryz.isAgg3
 have z3 := Tryz.sizeOf3
 have u9 := Tryz.underlying9
 have a9 := Tryz.isAgg9
 have z9 := Tryz.sizeOf9
 have av := Tryz.isAgg42
 have zv := Tryz.sizeOf42
 have hS : Tryz.prog.underlying 71 = some (.struct (Tryz.prog.fieldsOf 71)) := by kernel_rfl
 have hp : Tryz.prog.stoodInHeld 71 = false := by kernel_rfl
 have he : decide (x = y) = (x.name.toList == y.name.toList && (x.a == y.a && (x.b == y.b && x.c == y.c))) := by
  obtain ⟨n, a, b, c⟩ := x
  obtain ⟨n', a', b', c'⟩ := y
  rw [Bool.eq_iff_iff]
  simp only [decide_eq_true_eq, It.mk.injEq, Bool.and_eq_true, beq_iff_eq]
  constructor
  ·rintro ⟨rfl, rfl, rfl, rfl⟩; exact ⟨rfl, rfl, rfl, rfl⟩
  ·rintro ⟨h, rfl, rfl, rfl⟩; exact ⟨bytes_eq h, rfl, rfl, rfl⟩
 show (binOp .eql 71 (.agg (encIt x).toArray) (.agg (encIt y).toArray)).run Tryz.prog w = .ok (.bool (decide (x = y))) w
 rw [he]
 simp only [encIt]
 have h3 := eq3 x.a x.b x.c y.a y.b y.c
 generalize x.name = n at *
 generalize y.name = n' at *
 generalize x.a = a at *
 generalize x.b = b at *
 generalize x.c = c at *
 generalize y.a = a' at *
 generalize y.b = b' at *
 generalize y.c = c' at *
 generalize (a == a' && (b == b' && c == c')) = q at *
 clear he
 rw [run_eql_struct, show (10000 : Nat) = 9999 + 1 from rfl, run_equalIn_agg w 9999 71 _ _ hS hp]
 simp only [Program.fieldsOf, Tryz.underlying71]
 cases hn : (n.toList == n'.toList) <;> cases q <;> go_simp
end Go.Proofs.YtmhophccdfmngaaGreatDoor
namespace Go.Proofs.YtmhophccdfmngaaGreatDoor
open Go.RowKit Sv
theorem has_out0neg (va : Option Addr) (vl vc : Nat) (a b c : Int) (hx : a < 0) (w : World) :
  Calls Tryz.prog 25 #[.agg #[.slice va vl vc], .agg #[.int .i64 a, .int .i64 b, .int .i64 c]] w fun e w' => e = .returned (.bool false) /\ Below w.heap.size w w' := by
 have hB0 : Below w.heap.size w ((w.alloc (.cells #[.slice va vl vc] 31)).alloc (.cells #[.int .i64 a, .int .i64 b, .int .i64 c] 42)) := ((Below.refl _ w).alloc (Nat.le_refl _) _).alloc (by simp only [World.size_alloc]; omega) _
 have HB0 := Lib.hid hB0
 clear hB0
 go_enter Tryz.func25, Tryz.ntmps25
 go_wp2_with fail
 generalize (w.alloc (.cells #[.slice va vl vc] 31)).alloc (.cells #[.int .i64 a, .int .i64 b, .int .i64 c] 42) = W0 at *
 go_loop [10] (fun i => ∃ k : Nat, k <= 0 /\ i = .int .i64 (k : Int)) (fun i => 3 - (intOf i).toNat)
 case atStart => exact ⟨0, by omega, rfl⟩
 case round =>
  obtain ⟨k, hk, rfl⟩ := hrel
  match k, hk with
  | 0, _ =>
   have hix := idx0 a b c W0
   go_wp2
   go_ret
   exact ⟨rfl, HB0.out⟩
theorem has_out0big (va : Option Addr) (vl vc : Nat) (a b c : Int) (hx0 : ¬ a < 0) (hx : 999 < a) (w : World) :
  Calls Tryz.prog 25 #[.agg #[.slice va vl vc], .agg #[.int .i64 a, .int .i64 b, .int .i64 c]] w fun e w' => e = .returned (.bool false) /\ Below w.heap.size w w' := by
 have hB0 : Below w.heap.size w ((w.alloc (.cells #[.slice va vl vc] 31)).alloc (.cells #[.int .i64 a, .int .i64 b, .int .i64 c] 42)) := ((Below.refl _ w).alloc (Nat.le_refl _) _).alloc (by simp only [World.size_alloc]; omega) _
 have HB0 := Lib.hid hB0
 clear hB0
 go_enter Tryz.func25, Tryz.ntmps25
 go_wp2_with fail
 generalize (w.alloc (.cells #[.slice va vl vc] 31)).alloc (.cells #[.int .i64 a, .int .i64 b, .int .i64 c] 42) = W0 at *
 go_loop [10] (fun i => ∃ k : Nat, k <= 0 /\ i = .int .i64 (k : Int)) (fun i => 3 - (intOf i).toNat)
 case atStart => exact ⟨0, by omega, rfl⟩
 case round =>
  obtain ⟨k, hk, rfl⟩ := hrel
  match k, hk with
  | 0, _ =>
   have hix := idx0 a b c W0
   go_wp2
   go_ret
   exact ⟨rfl, HB0.out⟩
theorem has_out1neg (va : Option Addr) (vl vc : Nat) (a b c : Int) (ha0 : ¬ a < 0) (ha1 : ¬ 999 < a) (hx : b < 0) (w : World) :
  Calls Tryz.prog 25 #[.agg #[.slice va vl vc], .agg #[.int .i64 a, .int .i64 b, .int .i64 c]] w fun e w' => e = .returned (.bool false) /\ Below w.heap.size w w' := by
 have hB0 : Below w.heap.size w ((w.alloc (.cells #[.slice va vl vc] 31)).alloc (.cells #[.int .i64 a, .int .i64 b, .int .i64 c] 42)) := ((Below.refl _ w).alloc (Nat.le_refl _) _).alloc (by simp only [World.size_alloc]; omega) _
 have HB0 := Lib.hid hB0
 clear hB0
 go_enter Tryz.func25, Tryz.ntmps25
 go_wp2_with fail
 generalize (w.alloc (.cells #[.slice va vl vc] 31)).alloc (.cells #[.int .i64 a, .int .i64 b, .int .i64 c] 42) = W0 at *
 go_loop [10] (fun i => ∃ k : Nat, k <= 1 /\ i = .int .i64 (k : Int)) (fun i => 3 - (intOf i).toNat)
 case atStart => exact ⟨0, by omega, rfl⟩
 case round =>
  obtain ⟨k, hk, rfl⟩ := hrel
  match k, hk with
  | 0, _ =>
   have hix := idx0 a b c W0
   go_wp2
   go_round
   case rel => exact ⟨1, by omega, rfl⟩
   case measure => simp [intOf]
  | 1, _ =>
   have hix := idx1 a b c W0
   go_wp2
   go_ret
   exact ⟨rfl, HB0.out⟩
theorem has_out1big (va : Option Addr) (vl vc : Nat) (a b c : Int) (ha0 : ¬ a < 0) (ha1 : ¬ 999 < a) (hx0 : ¬ b < 0) (hx : 999 < b) (w : World) :
  Calls Tryz.prog 25 #[.agg #[.slice va vl vc], .agg #[.int .i64 a, .int .i64 b, .int .i64 c]] w fun e w' => e = .returned (.bool false) /\ Below w.heap.size w w' := by
 have hB0 : Below w.heap.size w ((w.alloc (.cells #[.slice va vl vc] 31)).alloc (.cells #[.int .i64 a, .int .i64 b, .int .i64 c] 42)) := ((Below.refl _ w).alloc (Nat.le_refl _) _).alloc (by simp only [World.size_alloc]; omega) _
 have HB0 := Lib.hid hB0
 clear hB0
 go_enter Tryz.func25, Tryz.ntmps25
 go_wp2_with fail
 generalize (w.alloc (.cells #[.slice va vl vc] 31)).alloc (.cells #[.int .i64 a, .int .i64 b, .int .i64 c] 42) = W0 at *
 go_loop [10] (fun i => ∃ k : Nat, k <= 1 /\ i = .int .i64 (k : Int)) (fun i => 3 - (intOf i).toNat)
 case atStart => exact ⟨0, by omega, rfl⟩
 case round =>
  obtain ⟨k, hk, rfl⟩ := hrel
  match k, hk with
  | 0, _ =>
   have hix := idx0 a b c W0
   go_wp2
   go_round
   case rel => exact ⟨1, by omega, rfl⟩
   case measure => simp [intOf]
  | 1, _ =>
   have hix := idx1 a b c W0
   go_wp2
   go_ret
   exact ⟨rfl, HB0.out⟩
theorem has_out2neg (va : Option Addr) (vl vc : Nat) (a b c : Int) (ha0 : ¬ a < 0) (ha1 : ¬ 999 < a) (hb0 : ¬ b < 0) (hb1 : ¬ 999 < b) (hx : c < 0) (w : World) :
  Calls Tryz.prog 25 #[.agg #[.slice va vl vc], .agg #[.int .i64 a, .int .i64 b, .int .i64 c]] w fun e w' => e = .returned (.bool false) /\ Below w.heap.size w w' := by
 have hB0 : Below w.heap.size w ((w.alloc (.cells #[.slice va vl vc] 31)).alloc (.cells #[.int .i64 a, .int .i64 b, .int .i64 c] 42)) := ((Below.refl _ w).alloc (Nat.le_refl _) _).alloc (by simp only [World.size_alloc]; omega) _
 have HB0 := Lib.hid hB0
 clear hB0
 go_enter Tryz.func25, Tryz.ntmps25
 go_wp2_with fail
 generalize (w.alloc (.cells #[.slice va vl vc] 31)).alloc (.cells #[.int .i64 a, .int .i64 b, .int .i64 c] 42) = W0 at *
 go_loop [10] (fun i => ∃ k : Nat, k <= 2 /\ i = .int .i64 (k : Int)) (fun i => 3 - (intOf i).toNat)
 case atStart => exact ⟨0, by omega, rfl⟩
 case round =>
  obtain ⟨k, hk, rfl⟩ := hrel
  match k, hk with
  | 0, _ =>
   have hix := idx0 a b c W0
   go_wp2
   go_round
   case rel => exact ⟨1, by omega, rfl⟩
   case measure => simp [intOf]
  | 1, _ =>
   have hix := idx1 a b c W0
   go_wp2
   go_round
   case rel => exact ⟨2, by omega, rfl⟩
   case measure => simp [intOf]
  | 2, _ =>
   have hix := idx2 a b c W0
   go_wp2
   go_ret
   exact ⟨rfl, HB0.out⟩
theorem has_out2big (va : Option Addr) (vl vc : Nat) (a b c : Int) (ha0 : ¬ a < 0) (ha1 : ¬ 999 < a) (hb0 : ¬ b < 0) (hb1 : ¬ 999 < b) (hx0 : ¬ c < 0) (hx : 999 < c) (w : World) :
  Calls Tryz.prog 25 #[.agg #[.slice va vl vc], .agg #[.int .i64 a, .int .i64 b, .int .i64 c]] w fun e w' => e = .returned (.bool false) /\ Below w.heap.size w w' := by
 have hB0 : Below w.heap.size w ((w.alloc (.cells #[.slice va vl vc] 31)).alloc (.cells #[.int .i64 a, .int .i64 b, .int .i64 c] 42)) := ((Below.refl _ w).alloc (Nat.le_refl _) _).alloc (by simp only [World.size_alloc]; omega) _
 have HB0 := Lib.hid hB0
 clear hB0
 go_enter Tryz.func25, Tryz.ntmps25
 go_wp2_with fail
 generalize (w.alloc (.cells #[.slice va vl vc] 31)).alloc (.cells #[.int .i64 a, .int .i64 b, .int .i64 c] 42) = W0 at *
 go_loop [10] (fun i => ∃ k : Nat, k <= 2 /\ i = .int .i64 (k : Int)) (fun i => 3 - (intOf i).toNat)
 case atStart => exact ⟨0, by omega, rfl⟩
 case round =>
  obtain ⟨k, hk, rfl⟩ := hrel
  match k, hk with
  | 0, _ =>
   have hix := idx0 a b c W0
   go_wp2
   go_round
   case rel => exact ⟨1, by omega, rfl⟩
   case measure => simp [intOf]
  | 1, _ =>
   have hix := idx1 a b c W0
   go_wp2
   go_round
   case rel => exact ⟨2, by omega, rfl⟩
   case measure => simp [intOf]
  | 2, _ =>
   have hix := idx2 a b c W0
   go_wp2
   go_ret
   exact ⟨rfl, HB0.out⟩
theorem has_out (va : Option Addr) (vl vc : Nat) (a b c : Int) (h : ¬ ((0 <= a /\ a <= 999) /\ (0 <= b /\ b <= 999) /\ (0 <= c /\ c <= 999))) (w : World) :
  Calls Tryz.prog 25 #[.agg #[.slice va vl vc], .agg #[.int .i64 a, .int .i64 b, .int .i64 c]] w fun e w' => e = .returned (.bool false) /\ Below w.heap.size w w' := by
 by_cases a0 : a < 0
 ·exact has_out0neg va vl vc a b c a0 w
 by_cases a1 : 999 < a
 ·exact has_out0big va vl vc a b c a0 a1 w
 by_cases b0 : b < 0
 ·exact has_out1neg va vl vc a b c a0 a1 b0 w
 by_cases b1 : 999 < b
 ·exact has_out1big va vl vc a b c a0 a1 b0 b1 w
 by_cases c0 : c < 0
 ·exact has_out2neg va vl vc a b c a0 a1 b0 b1 c0 w
 by_cases c1 : 999 < c
 ·exact has_out2big va vl vc a b c a0 a1 b0 b1 c0 c1 w
 exact absurd ⟨⟨by omega, by omega⟩, ⟨by omega, by omega⟩, ⟨by omega, by omega⟩⟩ h
end Go.Proofs.YtmhophccdfmngaaGreatDoor
namespace Go.Proofs.YtmhophccdfmngaaGreatDoor
open Go.RowKit Sv
theorem name_yes (s : ByteArray) (w : World) (h : NameOk s) : Calls Tryz.prog 153 #[.string s] w fun e w' => e = .returned (.bool true) /\ w = w' := (name_any s w).mono fun _ _ ⟨h1, h2⟩ => ⟨h1.1 h, h2⟩
theorem name_no (s : ByteArray) (w : World) (h : ¬ NameOk s) : Calls Tryz.prog 153 #[.string s] w fun e w' => e = .returned (.bool false) /\ w = w' := (name_any s w).mono fun _ _ ⟨h1, h2⟩ => ⟨h1.2 h, h2⟩
open Classical in
theorem hasv (l : List Span) (hl : Rg l) (va : Option Addr) (vc : Nat) (x : It) (w : World) (hv : SpAt w (.slice va l.length vc) l) :
  Calls Tryz.prog 25 #[.agg #[.slice va l.length vc], .agg #[.int .i64 x.a, .int .i64 x.b, .int .i64 x.c]] w fun e w' => e = .returned (.bool (decide (hasF l x))) /\ Below w.heap.size w w' := by
 by_cases h : InV x.a x.b x.c
 ·obtain ⟨n, a, b, c⟩ := x
  obtain ⟨a', rfl⟩ : ∃ a' : Nat, a = (a' : Int) := ⟨a.toNat, by have := h.1; simp only at this; omega⟩
  obtain ⟨b', rfl⟩ : ∃ b' : Nat, b = (b' : Int) := ⟨b.toNat, by have := h.2.1; simp only at this; omega⟩
  obtain ⟨c', rfl⟩ : ∃ c' : Nat, c = (c' : Int) := ⟨c.toNat, by have := h.2.2; simp only at this; omega⟩
  have h1 := h.1; have h2 := h.2.1; have h3 := h.2.2
  simp only at h1 h2 h3
  refine (has_any l hl (.slice va l.length vc) a' b' c' (by omega) (by omega) (by omega) w hv).mono fun e w' ⟨B, he, hB, hb⟩ => ⟨?_, hb⟩
  rw [he]
  congr 2
  rw [Bool.eq_iff_iff, hB, decide_eq_true_eq]
  unfold hasF
  simp only [Int.toNat_natCast]
  exact ⟨fun h' => ⟨h, h'⟩, fun h' => h'.2⟩
 ·refine (has_out va l.length vc x.a x.b x.c h w).mono fun e w' ⟨he, hb⟩ => ⟨?_, hb⟩
  rw [he]
  congr 2
  symm
  rw [decide_eq_false_iff_not]
  exact fun h' => h h'.1
theorem anyhas (va : Option Addr) (vc : Nat) (a b c : Int) (w : World) (hv : SpAt w (.slice va anyF.length vc) anyF) :
  Calls Tryz.prog 25 #[.agg #[.slice va anyF.length vc], .agg #[.int .i64 a, .int .i64 b, .int .i64 c]] w fun e w' => e = .returned (.bool (decide (InV a b c))) /\ Below w.heap.size w w' := by
 refine (hasv anyF rg_any va vc ⟨⟨#[]⟩, a, b, c⟩ w hv).mono fun e w' ⟨he, hb⟩ => ⟨?_, hb⟩
 rw [he]
 congr 2
 rw [Bool.eq_iff_iff]
 simp only [decide_eq_true_eq]
 unfold hasF
 constructor
 ·exact fun h => h.1
 ·intro h
  refine ⟨h, mem_any.2 ?_⟩
  obtain ⟨h1, h2, h3⟩ := h
  simp only
  unfold numV ALL
  omega
theorem empty_yes (ra : Option Addr) (rc : Nat) (w : World) : Calls Tryz.prog 15 #[.agg #[.slice ra 0 rc]] w fun e w' => e = .returned (.bool true) /\ Below w.heap.size w w' := by
 have hB : Hid (Below w.heap.size w (w.alloc (.cells #[.slice ra 0 rc] 31))) := (Below.refl _ w).alloc (Nat.le_refl _) _
 go_enter Tryz.func15, Tryz.ntmps15
 go_wp2
 go_ret
 exact ⟨rfl, hB.out⟩
theorem empty_no (ra : Option Addr) (rn rc : Nat) (w : World) (h : 0 < rn) : Calls Tryz.prog 15 #[.agg #[.slice ra rn rc]] w fun e w' => e = .returned (.bool false) /\ Below w.heap.size w w' := by
 have hB : Hid (Below w.heap.size w (w.alloc (.cells #[.slice ra rn rc] 31))) := (Below.refl _ w).alloc (Nat.le_refl _) _
 have hz : ((rn : Int) == 0) = false := by rw [beq_eq_false_iff_ne]; omega
 go_enter Tryz.func15, Tryz.ntmps15
 go_wp2
 go_ret
 exact ⟨rfl, hB.out⟩
theorem eq3t (a b c a' b' c' : Int) (w : World) : (Op.equalIn 10000 42 (.agg #[.int .i64 a, .int .i64 b, .int .i64 c]) (.agg #[.int .i64 a', .int .i64 b', .int .i64 c'])).run Tryz.prog w = .ok (a == a' && (b == b' && c == c')) w := by
 have u3 := Tryz.underlying3
 have a3 := Tryz.isAgg3
 have z3 := Tryz.sizeOf3
 rw [show (10000 : Nat) = 9999 + 1 from rfl, Op.equalIn]
 simp only [Sem.run_bind, run_underlying Tryz.underlying42, Result.andThen_ok]
 simp only [Std.Legacy.Range.forIn_eq_forIn_range', Std.Legacy.Range.size, Nat.sub_zero, Nat.add_sub_cancel, Nat.div_one, List.range'_succ, List.range'_zero, List.forIn_cons, List.forIn_nil]
 by_cases h1 : a = a'
 ·by_cases h2 : b = b'
  ·by_cases h3 : c = c'
   ·subst h1 h2 h3; go_simp
   ·have e3 : (c == c') = false := by simpa using h3
    subst h1 h2; go_simp
  ·have e2 : (b == b') = false := by simpa using h2
   subst h1; go_simp
 ·have e1 : (a == a') = false := by simpa using h1
  go_simp
end Go.Proofs.YtmhophccdfmngaaGreatDoor
namespace Go.Proofs.YtmhophccdfmngaaGreatDoor
open Go.RowKit
def ErrIs (w : World) (e : Value) (m pl : Int) : Prop :=
 (m = 0 /\ pl = -1 /\ e = .nilIface) \/ (m ≠ 0 /\ pl = -1 /\ e = .iface 24 (.int .i64 m)) \/
 (m ≠ 0 /\ ∃ b, b < w.heap.size /\ e = .iface 153 (.pointer (some ⟨b, 0, none⟩)) /\ w.cell? ⟨b, 0, none⟩ = some (.int .i64 m) /\ w.cell? ⟨b, 1, none⟩ = some (.int .i64 pl))
theorem ErrIs.below {w w' : World} {e : Value} {m pl : Int} (h : ErrIs w e m pl) (hb : Below w.heap.size w w') : ErrIs w' e m pl := by
 rcases h with h | h | ⟨h0, b, h1, h2, h3, h4⟩
 ·exact Or.inl h
 ·exact Or.inr (Or.inl h)
 ·exact Or.inr (Or.inr ⟨h0, b, Nat.lt_of_lt_of_le h1 hb.size, h2, (hb.cell (p := ⟨b, 0, none⟩) h1).trans h3, (hb.cell (p := ⟨b, 1, none⟩) h1).trans h4⟩)
end Go.Proofs.YtmhophccdfmngaaGreatDoor
namespace Go.Proofs.YtmhophccdfmngaaGreatDoor
open Go.RowKit
theorem within_any (n lo hi : Int) (w : World) : Calls Tryz.prog 78 #[.int .i64 n, .int .i64 lo, .int .i64 hi] w fun e w' => e = .returned (.bool (decide (lo <= n /\ n <= hi))) /\ w = w' := by
 by_cases h1 : lo <= n
 ·by_cases h2 : n <= hi
  ·rw [show decide (lo <= n /\ n <= hi) = true by simp [h1, h2]]
   go_enter Tryz.func78, Tryz.ntmps78
   go_wp2
   go_ret
   exact ⟨rfl, rfl⟩
  ·rw [show decide (lo <= n /\ n <= hi) = false by simp [h2]]
   go_enter Tryz.func78, Tryz.ntmps78
   go_wp2
   go_ret
   exact ⟨rfl, rfl⟩
 ·rw [show decide (lo <= n /\ n <= hi) = false by simp [h1]]
  go_enter Tryz.func78, Tryz.ntmps78
  go_wp2
  go_ret
  exact ⟨rfl, rfl⟩
end Go.Proofs.YtmhophccdfmngaaGreatDoor
