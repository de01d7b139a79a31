/- New. -/
import Derived.Test.YtiimdhmbbmkbfaaGreatDoorArSweep
namespace Go.Proofs.YtiimdhmbbmkbfaaGreatDoor
open Go.RowKit Go.Maps

set_option maxRecDepth 100000 in
set_option maxHeartbeats 1000000 in
theorem new_any (room : Int) (h0 : 0 ≤ room) (h1 : room ≤ 4000) (w : World) (B : Nat) (hB : B ≤ w.heap.size) :
    Calls Tryz.prog 41 #[.int .i64 room] w fun e w' => e = .returned (.tuple #[.pointer (some ⟨w.heap.size + 1, 0, none⟩), .nilIface]) ∧ ArenaAt B w' (w.heap.size + 1) w.heap.size (.slice none 0 0) [] [] room 2 ∧ Below w.heap.size w w' := by
  have hmm := @run_makeMap Tryz.prog
  have hE : ArenaAt B ((w.alloc (.map #[] 0)).alloc (.cells #[.int .i64 room, .slice none 0 0, .map (some w.heap.size), .int .i64 2] 115)) (w.heap.size + 1) w.heap.size (.slice none 0 0) [] [] room 2 := by
    have e1 : (w.alloc (.map #[] 0)).heap.size = w.heap.size + 1 := by simp
    have hm : ((w.alloc (.map #[] 0)).alloc (.cells #[.int .i64 room, .slice none 0 0, .map (some w.heap.size), .int .i64 2] 115)).ownsMap Tryz.prog 99 (plainElem (H := Unit) Tryz.prog 3) w.heap.size 0 (.map []) := (World.ownsMap_made w _ _ _).alloc _
    refine ⟨by simp, ?_, ?_, ?_, ?_, ?_, World.ownsRow_nil _ _ _ _, ⟨_, hm, Rep.empty⟩, by simp [Value.ownBlock], by omega, by simp [Value.ownBlock], by omega, hB⟩
    · rw [← e1]; simp
    · rw [← e1]; simp
    · rw [← e1]; simp
    · rw [← e1]; simp
    · intro i; rw [← e1]; simp
  have hb : Below w.heap.size w ((w.alloc (.map #[] 0)).alloc (.cells #[.int .i64 room, .slice none 0 0, .map (some w.heap.size), .int .i64 2] 115)) := ((Below.refl _ _).alloc (Nat.le_refl _) _).alloc (by simp) _
  have HE := Lib.hid hE
  clear hE
  go_enter Tryz.func41, Tryz.ntmps41
  go_wp2
  go_ret2
  exact ⟨rfl, HE.out, hb⟩
end Go.Proofs.YtiimdhmbbmkbfaaGreatDoor
