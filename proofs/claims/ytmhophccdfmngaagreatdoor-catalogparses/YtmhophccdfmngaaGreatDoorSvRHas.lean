/- The reference: is a version in a range; the program's answer by the same word. -/
import Derived.Test.YtmhophccdfmngaaGreatDoorSvRgW
import Derived.Test.YtmhophccdfmngaaGreatDoorSvHas
import Derived.Test.YtmhophccdfmngaaGreatDoorSvOut
import Derived.Test.YtmhophccdfmngaaGreatDoorCtMem
import Derived.Test.YtmhophccdfmngaaGreatDoorCtLine
set_option maxRecDepth 100000
namespace Go.Proofs.YtmhophccdfmngaaGreatDoor
open Go.RowKit Go.Shelf Sv
theorem ridx0 (A B C : Int) (W : World) : (Instr.index 48 (.agg #[.int .i64 A, .int .i64 B, .int .i64 C]) (.int .i64 0)).run Tryz.prog W = .ok (.int .i64 A) W := by kernel_rfl
theorem ridx1 (A B C : Int) (W : World) : (Instr.index 48 (.agg #[.int .i64 A, .int .i64 B, .int .i64 C]) (.int .i64 1)).run Tryz.prog W = .ok (.int .i64 B) W := by kernel_rfl
theorem ridx2 (A B C : Int) (W : World) : (Instr.index 48 (.agg #[.int .i64 A, .int .i64 B, .int .i64 C]) (.int .i64 2)).run Tryz.prog W = .ok (.int .i64 C) W := by kernel_rfl
end Go.Proofs.YtmhophccdfmngaaGreatDoor
