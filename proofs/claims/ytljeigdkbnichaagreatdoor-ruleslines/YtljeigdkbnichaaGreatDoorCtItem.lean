/- Items: held against each other; found; copied. -/
import Derived.Test.YtljeigdkbnichaaGreatDoorCtShelf
import Derived.Test.YtljeigdkbnichaaGreatDoorCtMem
import Derived.Laws.StructEq
namespace Go.Proofs.YtljeigdkbnichaaGreatDoor
open Go.RowKit Go.Shelf Go.Lib Sv

set_option maxRecDepth 100000 in
theorem eq3 (a b c a' b' c' : Int) (w : World) : (Op.equalIn 9999 42 (.agg #[.int .i64 a, .int .i64 b, .int .i64 c]) (.agg #[.int .i64 a', .int .i64 b', .int .i64 c'])).run Tryz.prog w = .ok (a == a' && (b == b' && c == c')) w := by
  have u3 := Tryz.underlying3
  have a3 := Tryz.isAgg3
  have z3 := Tryz.sizeOf3
  rw [show (9999 : Nat) = 9998 + 1 from rfl, Op.equalIn]
  simp only [Sem.run_bind, run_underlying Tryz.underlying42, Result.andThen_ok]
  simp only [Std.Legacy.Range.forIn_eq_forIn_range', Std.Legacy.Range.size, Nat.sub_zero, Nat.add_sub_cancel, Nat.div_one, List.range'_succ, List.range'_zero, List.forIn_cons, List.forIn_nil]
  by_cases h1 : a = a'
  · by_cases h2 : b = b'
    · by_cases h3 : c = c'
      · subst h1 h2 h3; go_simp
      · have e3 : (c == c') = false := by simpa using h3
        subst h1 h2; go_simp
    · have e2 : (b == b') = false := by simpa using h2
      subst h1; go_simp
  · have e1 : (a == a') = false := by simpa using h1
    go_simp

set_option maxRecDepth 100000 in
theorem eqIt : EqlAt Tryz.prog 71 (fun x => .agg (encIt x).toArray) (fun x y => decide (x = y)) := by
  refine ⟨fun x y w => ?_, GuardAt.agg _ (by kernel_rfl)⟩
  have u3 := Tryz.underlying3
  have a3 := Tryz.isAgg3
  have z3 := Tryz.sizeOf3
  have u9 := Tryz.underlying9
  have a9 := Tryz.isAgg9
  have z9 := Tryz.sizeOf9
  have av := Tryz.isAgg42
  have zv := Tryz.sizeOf42
  have hS : Tryz.prog.underlying 71 = some (.struct (Tryz.prog.fieldsOf 71)) := by kernel_rfl
  have hp : Tryz.prog.stoodInHeld 71 = false := by kernel_rfl
  have he : decide (x = y) = (x.name.toList == y.name.toList && (x.a == y.a && (x.b == y.b && x.c == y.c))) := by
    obtain ⟨n, a, b, c⟩ := x
    obtain ⟨n', a', b', c'⟩ := y
    rw [Bool.eq_iff_iff]
    simp only [decide_eq_true_eq, It.mk.injEq, Bool.and_eq_true, beq_iff_eq]
    constructor
    · rintro ⟨rfl, rfl, rfl, rfl⟩; exact ⟨rfl, rfl, rfl, rfl⟩
    · rintro ⟨h, rfl, rfl, rfl⟩; exact ⟨bytes_eq h, rfl, rfl, rfl⟩
  show (binOp .eql 71 (.agg (encIt x).toArray) (.agg (encIt y).toArray)).run Tryz.prog w = .ok (.bool (decide (x = y))) w
  rw [he]
  simp only [encIt]
  have h3 := eq3 x.a x.b x.c y.a y.b y.c
  generalize x.name = n at *
  generalize y.name = n' at *
  generalize x.a = a at *
  generalize x.b = b at *
  generalize x.c = c at *
  generalize y.a = a' at *
  generalize y.b = b' at *
  generalize y.c = c' at *
  generalize (a == a' && (b == b' && c == c')) = q at *
  clear he
  rw [run_eql_struct, show (10000 : Nat) = 9999 + 1 from rfl, run_equalIn_agg w 9999 71 _ _ hS hp]
  simp only [Program.fieldsOf, Tryz.underlying71]
  cases hn : (n.toList == n'.toList) <;> cases q <;> go_simp
end Go.Proofs.YtljeigdkbnichaaGreatDoor
