/- What the rows' lists give of errors.errorType and solspaceref.Fine; and a world in which they hold. -/
import Derived.Test.YtcmmoinkhodjfaaDoorErLaid
import Derived.Test.YtcmmoinkhodjfaaDoorClRCheck
import Derived.Test.YtcmmoinkhodjfaaDoorClArg
import Derived.Lib.LaidTab
import Derived.ChangeSame
namespace Go.Proofs.YtcmmoinkhodjfaaDoor
open Go.ChangeShapes Go.WideShapes Go.ChangeAt Go.RowKit

theorem gFine : Tryd.prog.globalNamed "solspace/solspaceref.Fine" = some 0 := by kernel_rfl
theorem gFineType : (Tryd.prog.globals[0]?).map (·.type) = some 41 := by kernel_rfl
theorem cellsErrno : Tryd.prog.cellsOf 27 = 1 := by kernel_rfl
theorem cellsFault : Tryd.prog.cellsOf 41 = 2 := by kernel_rfl

set_option maxRecDepth 100000 in
theorem fine_of {W : World} {l : List (String × DataW Unit)} (h : laidMetH Tryd.prog l W) (hk : (l.filter fun x => x.1 == "solspace/solspaceref.Fine") = [("solspace/solspaceref.Fine", Rows.laid_solspace_solspaceref_Fine)]) : Fine W := by
  have h2 := h.filter fun x => x.1 == "solspace/solspaceref.Fine"
  rw [hk] at h2
  have h3 : laidMet Tryd.prog [("solspace/solspaceref.Fine", Rows.laid_solspace_solspaceref_Fine)] W := h2
  obtain ⟨ps, ⟨g', t', cs, fuel, p, q, hg', ht', hvar, hd, _, _⟩, _⟩ := h3
  obtain rfl := Option.some.inj (gFine.symm.trans hg')
  obtain rfl := Option.some.inj (gFineType.symm.trans ht')
  obtain ⟨y0, y1, n, hx, hl, g0, g1⟩ := trod_struct2 Tryd.underlying41 hd
  rw [cellsFault] at hl
  obtain ⟨cs⟩ := cs
  simp only at hl g0 g1
  match cs, hl with
  | [v0, v1], _ =>
    simp [cellsErrno, cellsInt] at g0 g1
    obtain ⟨z0, e0, x0, -⟩ := DataW.trod_int Tryd.underlying27 g0
    obtain ⟨z1, e1, x1, -⟩ := DataW.trod_int Tryd.underlying3 g1
    simp at e0 e1
    subst e0 e1 x0 x1
    simp [Rows.laid_solspace_solspaceref_Fine] at hx
    obtain ⟨⟨rfl, rfl⟩, -⟩ := hx
    exact ⟨by have := World.var?_cell gFine hvar 0; simpa using this, by have := World.var?_cell gFine hvar 1; simpa using this⟩

noncomputable def laidWorldC (os : Os) : World :=
  { World.holding Tryd.prog os ⟨#[], #[], []⟩ with heap := ((World.holding Tryd.prog os ⟨#[], #[], []⟩).heap.modify 1 (refill #[.iface 129 (.agg #[.pointer (some ⟨6, 31, none⟩)])])).modify 0 (refill #[.int .i64 0, .int .i64 (-1)]) }
end Go.Proofs.YtcmmoinkhodjfaaDoor
