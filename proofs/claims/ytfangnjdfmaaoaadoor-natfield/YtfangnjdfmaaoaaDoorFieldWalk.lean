/- NatField at whatever texts and int. -/
import Derived.Test.YtfangnjdfmaaoaaDoorFieldNo
import Derived.Test.YtfangnjdfmaaoaaDoorFieldYes
namespace Go.Proofs.YtfangnjdfmaaoaaDoor
open Go.RowKit Num Go.Sort

theorem field_any (a b c : ByteArray) (t : Int) (w : World) (ha : a.size ≤ 9223372036854775807) (hb : b.size ≤ 9223372036854775807) (hc : c.size ≤ 9223372036854775807) (ht : Tab w) :
    Calls Tryd.prog 6 #[.string a, .string b, .string c, .int .i64 t] w fun e w' => e = .returned (.bool true) ∧ Below w.heap.size w w' := by
  by_cases hl : 120 < a.size ∨ 120 < b.size ∨ 120 < c.size
  · exact field_long a b c t w ha hb hc hl
  by_cases hy : (OkText a ∧ a.size ≤ 100) ∧ (OkText b ∧ b.size ≤ 100) ∧ (OkText c ∧ c.size ≤ 100)
  · exact field_yes a b c t w hy.1.2 hy.2.1.2 hy.2.2.2 hy.1.1 hy.2.1.1 hy.2.2.1 ht
  · exact field_err a b c t w (by omega) (by omega) (by omega) ht hy
end Go.Proofs.YtfangnjdfmaaoaaDoor
