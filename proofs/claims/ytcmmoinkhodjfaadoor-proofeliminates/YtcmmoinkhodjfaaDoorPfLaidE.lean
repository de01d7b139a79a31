/- What the row of ProofEliminates gives of the table of powers; and a world in which its variables hold. -/
import Derived.Test.YtcmmoinkhodjfaaDoorClLaid
import Derived.Test.YtcmmoinkhodjfaaDoorPfTold
import Derived.Shelf.Vars
namespace Go.Proofs.YtcmmoinkhodjfaaDoor
open Go.ChangeShapes Go.WideShapes Go.ChangeAt Go.RowKit Go.Shelf

theorem gTab : Tryd.prog.globalNamed "internal/strconv.uint64pow10" = some 2 := by kernel_rfl
theorem gTabType : (Tryd.prog.globals[2]?).map (·.type) = some 162 := by kernel_rfl
theorem cellsTab : Tryd.prog.cellsOf 162 = 20 := by kernel_rfl
theorem cellsTabE : Tryd.prog.cellsOf 153 = 1 := by kernel_rfl
theorem tab_of {W : World} {l : List (String × DataW Unit)} (h : laidMetH Tryd.prog l W) (hk : (l.filter fun x => x.1 == "internal/strconv.uint64pow10") = [("internal/strconv.uint64pow10", Lib.tabData .u64 Lib.pow10Tab)]) : Tab W := by
  have h2 := h.filter fun x => x.1 == "internal/strconv.uint64pow10"
  rw [hk] at h2
  have h3 : laidMet Tryd.prog [("internal/strconv.uint64pow10", Lib.tabData .u64 Lib.pow10Tab)] W := h2
  exact Lib.tabIs_of_head (rest := []) gTab gTabType Tryd.underlying162 Tryd.underlying153 cellsTabE cellsTab h3
/-- The literals of a table's datum, as cells. -/
def cellsIn1 : DataW Unit → List Value
  | .lit (.int k z) => [.int k z]
  | _ => [undef]
def cellsIn : DataW Unit → Array Value
  | .agg l => (l.flatMap cellsIn1).toArray
  | _ => #[]
noncomputable def laidWorldE (os : Os) : World :=
  { World.holding Tryd.prog os ⟨#[], #[], []⟩ with heap := (((((World.holding Tryd.prog os ⟨#[], #[], []⟩).heap.modify 1 (refill #[.iface 129 (.agg #[.pointer (some ⟨6, 31, none⟩)])])).modify 0 (refill #[.int .i64 0, .int .i64 (-1)])).modify 2 (refill (cellsIn Rows.laid_internal_strconv_uint64pow10))).modify 4 (refill (cellsIn Rows.laid_math_bits_deBruijn32tab))).modify 5 (refill (cellsIn Rows.laid_math_bits_deBruijn64tab)) }
end Go.Proofs.YtcmmoinkhodjfaaDoor
