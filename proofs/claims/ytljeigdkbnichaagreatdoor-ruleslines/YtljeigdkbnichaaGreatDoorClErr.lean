/- Errors, as a check makes them. -/
import Derived.Test.YtljeigdkbnichaaGreatDoorCnBase
import Derived.Lib.Hide
namespace Go.Proofs.YtljeigdkbnichaaGreatDoor
open Go.RowKit

/-- An error as Check makes it: none, a plain one, one at a place. -/
def ErrIs (w : World) (e : Value) (m pl : Int) : Prop :=
  (m = 0 ∧ pl = -1 ∧ e = .nilIface) ∨ (m ≠ 0 ∧ pl = -1 ∧ e = .iface 24 (.int .i64 m)) ∨
  (m ≠ 0 ∧ ∃ b, b < w.heap.size ∧ e = .iface 153 (.pointer (some ⟨b, 0, none⟩)) ∧ w.cell? ⟨b, 0, none⟩ = some (.int .i64 m) ∧ w.cell? ⟨b, 1, none⟩ = some (.int .i64 pl))
theorem ErrIs.below {w w' : World} {e : Value} {m pl : Int} (h : ErrIs w e m pl) (hb : Below w.heap.size w w') : ErrIs w' e m pl := by
  rcases h with h | h | ⟨h0, b, h1, h2, h3, h4⟩
  · exact Or.inl h
  · exact Or.inr (Or.inl h)
  · exact Or.inr (Or.inr ⟨h0, b, Nat.lt_of_lt_of_le h1 hb.size, h2, (hb.cell (p := ⟨b, 0, none⟩) h1).trans h3, (hb.cell (p := ⟨b, 1, none⟩) h1).trans h4⟩)

end Go.Proofs.YtljeigdkbnichaaGreatDoor
