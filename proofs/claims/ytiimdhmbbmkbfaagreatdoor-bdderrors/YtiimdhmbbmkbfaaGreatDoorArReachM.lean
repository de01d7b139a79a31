/- Which handles are reached, as lists. -/
import Derived.Test.YtiimdhmbbmkbfaaGreatDoorArReached
namespace Go.Proofs.YtiimdhmbbmkbfaaGreatDoor
open Go.RowKit Go.Maps

def icells (l : List Int) : List Value := l.map (Value.int .i64)
theorem icells_length (l : List Int) : (icells l).length = l.length := by simp [icells]
theorem icells_at (l : List Int) (i : Nat) (h : i < l.length) : (icells l)[i]? = some (.int .i64 l[i]) := by simp [icells, h]

/-- The handles that are marked, of the first k. -/
def reachTo (M : List Bool) (k : Nat) : List Int := ((List.range k).filter fun i => mk M i).map fun i : Nat => 2 + (i : Int)
theorem reachTo_succ (M : List Bool) (k : Nat) : reachTo M (k + 1) = reachTo M k ++ (if mk M k = true then [2 + (k : Int)] else []) := by
  unfold reachTo
  rw [List.range_succ, List.filter_append, List.map_append]
  congr 1
  by_cases h : mk M k = true
  · rw [if_pos h]; simp [h]
  · rw [if_neg h]; simp [h]
theorem reachTo_length (M : List Bool) (k : Nat) : (reachTo M k).length ≤ k := by
  unfold reachTo; rw [List.length_map]; exact Nat.le_trans (List.length_filter_le _ _) (by simp)
theorem mem_reachTo {M : List Bool} {k : Nat} {x : Int} : x ∈ reachTo M k ↔ ∃ i : Nat, i < k ∧ mk M i = true ∧ x = 2 + (i : Int) := by
  unfold reachTo
  simp only [List.mem_map, List.mem_filter, List.mem_range]
  constructor
  · rintro ⟨i, ⟨h1, h2⟩, rfl⟩; exact ⟨i, h1, h2, rfl⟩
  · rintro ⟨i, h1, h2, rfl⟩; exact ⟨i, ⟨h1, h2⟩, rfl⟩

theorem infoInt : (Tryz.prog.info? 3).map (fun i => (i.zero, i.size, i.bytes)) = some (some (.int .i64 0), 1, 8) := by kernel_rfl
end Go.Proofs.YtiimdhmbbmkbfaaGreatDoor
