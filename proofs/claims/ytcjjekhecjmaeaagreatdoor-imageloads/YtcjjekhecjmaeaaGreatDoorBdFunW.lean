/- Functions. -/
import Derived.Test.YtcjjekhecjmaeaaGreatDoorBdFree
import Derived.Test.YtcjjekhecjmaeaaGreatDoorQuads
import Derived.Deep.CutBlock
namespace Go.Proofs.YtcjjekhecjmaeaaGreatDoor
open Go.RowKit Go.Maps
section
variable {B s b : Nat} {O : Nat -> Prop} {vars : Nat} {room : Int} {ns0 : List Nd} {w : World}
theorem built_row (w : World) {B : Nat} (hB : B <= w.heap.size) (xs : Array Value) (e : TypeId) (hm : xs.size <= maxLen) : (w.alloc (.cells xs e)).ownsRow B e 1 (.slice (some ⟨w.heap.size, 0, none⟩) xs.size xs.size) xs.size xs.toList := by
 refine ⟨by simp, .inr ⟨w.heap.size, xs.size, xs, rfl, hB, (MapKept.heap_alloc w _).1, Nat.le_refl _, hm, by simp, ?_⟩⟩
 rw [Nat.mul_one, List.take_of_length_le (by simp)]
end
end Go.Proofs.YtcjjekhecjmaeaaGreatDoor
