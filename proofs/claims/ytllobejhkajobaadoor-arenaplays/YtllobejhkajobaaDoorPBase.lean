/- Cells of new blocks. -/
import Derived.Test.YtllobejhkajobaaDoorArBack
namespace Go.Proofs.YtllobejhkajobaaDoor
open Go.RowKit

theorem bcell {W w1 : World} (hb : Below W.heap.size W w1) : (∀ b o, b < W.heap.size → w1.cell? ⟨b, o, none⟩ = W.cell? ⟨b, o, none⟩) ∧ (∀ b o, b < W.heap.size → w1.frozen? ⟨b, o, none⟩ = W.frozen? ⟨b, o, none⟩) :=
  ⟨fun b o h => hb.cell (p := ⟨b, o, none⟩) h, fun b o h => hb.frozen (p := ⟨b, o, none⟩) h⟩

theorem cellOld {w : World} {b off : Nat} (o : Obj) (h : b < w.heap.size) : (w.alloc o).cell? ⟨b, off, none⟩ = w.cell? ⟨b, off, none⟩ :=
  ((Below.refl w.heap.size w).alloc (Nat.le_refl _) o).cell (p := ⟨b, off, none⟩) h
theorem frozenOld {w : World} {b off : Nat} (o : Obj) (h : b < w.heap.size) : (w.alloc o).frozen? ⟨b, off, none⟩ = w.frozen? ⟨b, off, none⟩ :=
  ((Below.refl w.heap.size w).alloc (Nat.le_refl _) o).frozen (p := ⟨b, off, none⟩) h
theorem cell1_0 (w : World) (A : Value) (t : TypeId) : (w.alloc (.cells #[A] t)).cell? ⟨w.heap.size, 0, none⟩ = some A := by simp
theorem frozen1_0 (w : World) (A : Value) (t : TypeId) : (w.alloc (.cells #[A] t)).frozen? ⟨w.heap.size, 0, none⟩ = false := by simp
theorem cell2_0 (w : World) (A : Value) (t : TypeId) (o : Obj) : ((w.alloc (.cells #[A] t)).alloc o).cell? ⟨w.heap.size, 0, none⟩ = some A := by
  rw [cellOld o (by simp), cell1_0]
theorem cell2_1 (w : World) (A : Value) (t : TypeId) (o : Obj) : ((w.alloc o).alloc (.cells #[A] t)).cell? ⟨w.heap.size + 1, 0, none⟩ = some A := by
  have := cell1_0 (w.alloc o) A t; rwa [World.size_alloc] at this
theorem frozen2_1 (w : World) (A : Value) (t : TypeId) (o : Obj) : ((w.alloc o).alloc (.cells #[A] t)).frozen? ⟨w.heap.size + 1, 0, none⟩ = false := by
  have := frozen1_0 (w.alloc o) A t; rwa [World.size_alloc] at this
theorem cell3_0 (w : World) (A : Value) (t : TypeId) (o p : Obj) : (((w.alloc (.cells #[A] t)).alloc o).alloc p).cell? ⟨w.heap.size, 0, none⟩ = some A := by
  rw [cellOld p (by simp; omega), cell2_0]
theorem cell3_1 (w : World) (A : Value) (t : TypeId) (o p : Obj) : (((w.alloc o).alloc (.cells #[A] t)).alloc p).cell? ⟨w.heap.size + 1, 0, none⟩ = some A := by
  rw [cellOld p (by simp), cell2_1]
theorem cell3_2 (w : World) (A : Value) (t : TypeId) (o p : Obj) : (((w.alloc o).alloc p).alloc (.cells #[A] t)).cell? ⟨w.heap.size + 1 + 1, 0, none⟩ = some A := by
  have := cell2_1 (w.alloc o) A t p; rwa [World.size_alloc] at this
theorem frozen3_2 (w : World) (A : Value) (t : TypeId) (o p : Obj) : (((w.alloc o).alloc p).alloc (.cells #[A] t)).frozen? ⟨w.heap.size + 1 + 1, 0, none⟩ = false := by
  have := frozen2_1 (w.alloc o) A t p; rwa [World.size_alloc] at this

theorem mixed : Tryd.prog.follows .mixedOrders = true := by kernel_rfl

theorem w64 {x : Int} (h0 : -9223372036854775808 ≤ x) (h1 : x ≤ 9223372036854775807) : IntKind.i64.wrap x = x := IntWalk.i64_in x ⟨h0, h1⟩
theorem wu64 {x : Int} (h0 : 0 ≤ x) (h1 : x ≤ 18446744073709551615) : IntKind.u64.wrap x = x := IntWalk.u64_in x ⟨h0, h1⟩
end Go.Proofs.YtllobejhkajobaaDoor
