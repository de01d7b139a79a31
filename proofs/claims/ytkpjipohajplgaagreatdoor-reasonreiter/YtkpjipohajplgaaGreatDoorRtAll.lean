/- The law of Reiter's rule, whole. -/
import Derived.Test.YtkpjipohajplgaaGreatDoorErBare
namespace Go.Proofs.YtkpjipohajplgaaGreatDoor.Fm
open Go.RowKit Go.Maps Go.Proofs.YtkpjipohajplgaaGreatDoor.Bd
theorem rreiter_any (vars : Int) (l : List Nat) (v : Value) (w : World) (hg : Glob w) (hx : UIn w v l) (h64 : ∀ x ∈ l, x < 2 ^ 64) :
  Calls Tryz.prog 3 #[.int .i64 vars, v] w fun e w' => e = .returned (.bool true) /\ Below w.heap.size w w' := by
 by_cases hc : (30 < l.length /\ l.length <= 200) \/ 250 < l.length \/ (6 < vars /\ vars <= 24)
 ·exact (rreiter_early vars l v w hx hc).mono fun e w' ⟨he, hw⟩ => ⟨he, hw ▸ Below.refl _ _⟩
 ·refine rreiter_main vars l v w hx h64 (by omega) (by omega) (fun m W hW => ?_) (fun W hW => ?_)
  ·have := bare_errno m m W (hg.below hW)
   simpa using this
  ·have := bare_nil 0 W
   simpa using this
end Go.Proofs.YtkpjipohajplgaaGreatDoor.Fm
