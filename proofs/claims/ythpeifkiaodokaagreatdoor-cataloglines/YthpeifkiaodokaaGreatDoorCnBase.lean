/- What the texts on errors lean on, at a seat without numbers. -/
import Derived.Test.YthpeifkiaodokaaGreatDoorRows
import Derived.WalkKit
import Derived.WalkSpells
import Derived.WalkLawsBesides
import Derived.Deep.Cut
import Derived.Deep.DeepCutAuto
import Derived.Deep.RegionWith
import Derived.Deep.LoopGhost
import Derived.Deep.DeepFit
import Derived.Deep.DeepMust
import Derived.Deep.Light
import Derived.Lib.QuietBelow
import Derived.Lib.MinMax
import Derived.BigQuiet
namespace Go.Proofs.YthpeifkiaodokaaGreatDoor
theorem cell1_0 (w : World) (v : Value) (t : TypeId) : (w.alloc (.cells #[v] t)).cell? ⟨w.heap.size, 0, none⟩ = some v := by simp
theorem frozen1_0 (w : World) (v : Value) (t : TypeId) : (w.alloc (.cells #[v] t)).frozen? ⟨w.heap.size, 0, none⟩ = false := by simp
end Go.Proofs.YthpeifkiaodokaaGreatDoor
