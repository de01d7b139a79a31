/- New, sameInts. -/
import Derived.Test.YtllobejhkajobaaDoorArSweep
namespace Go.Proofs.YtllobejhkajobaaDoor
open Go.RowKit Go.Maps

set_option maxRecDepth 100000 in
set_option maxHeartbeats 1000000 in
theorem new_any (room : Int) (h0 : 0 ≤ room) (h1 : room ≤ 4000) (w : World) (B : Nat) (hB : B ≤ w.heap.size) :
    Calls Tryd.prog 4 #[.int .i64 room] w fun e w' => e = .returned (.tuple #[.pointer (some ⟨w.heap.size + 1, 0, none⟩), .nilIface]) ∧ ArenaAt B w' (w.heap.size + 1) w.heap.size (.slice none 0 0) [] [] room 2 ∧ Below w.heap.size w w' := by
  have hmm := @run_makeMap Tryd.prog
  have hE : ArenaAt B ((w.alloc (.map #[] 0)).alloc (.cells #[.int .i64 room, .slice none 0 0, .map (some w.heap.size), .int .i64 2] 59)) (w.heap.size + 1) w.heap.size (.slice none 0 0) [] [] room 2 := by
    have e1 : (w.alloc (.map #[] 0)).heap.size = w.heap.size + 1 := by simp
    have hm : ((w.alloc (.map #[] 0)).alloc (.cells #[.int .i64 room, .slice none 0 0, .map (some w.heap.size), .int .i64 2] 59)).ownsMap Tryd.prog 39 (plainElem (H := Unit) Tryd.prog 3) w.heap.size 0 (.map []) := (World.ownsMap_made w _ _ _).alloc _
    refine ⟨by simp, ?_, ?_, ?_, ?_, ?_, World.ownsRow_nil _ _ _ _, ⟨_, hm, Rep.empty⟩, by simp [Value.ownBlock], by omega, by simp [Value.ownBlock], by omega, hB⟩
    · rw [← e1]; simp
    · rw [← e1]; simp
    · rw [← e1]; simp
    · rw [← e1]; simp
    · intro i; rw [← e1]; simp
  have hb : Below w.heap.size w ((w.alloc (.map #[] 0)).alloc (.cells #[.int .i64 room, .slice none 0 0, .map (some w.heap.size), .int .i64 2] 59)) := ((Below.refl _ _).alloc (Nat.le_refl _) _).alloc (by simp) _
  have HE := Lib.hid hE
  clear hE
  go_enter Tryd.func4, Tryd.ntmps4
  go_wp2
  go_ret2
  exact ⟨rfl, HE.out, hb⟩

set_option maxRecDepth 100000 in
set_option maxHeartbeats 2000000 in
theorem sameInts_eq {B1 B2 : Nat} {l : List Int} {a1 a2 : Option Addr} {c1 c2 : Nat} {w : World} (h1 : w.ownsRow B1 3 1 (.slice a1 l.length c1) l.length (icells l)) (h2 : w.ownsRow B2 3 1 (.slice a2 l.length c2) l.length (icells l)) (hl : l.length ≤ 100000) :
    Calls Tryd.prog 8 #[.slice a1 l.length c1, .slice a2 l.length c2] w fun e w' => e = .returned (.bool true) ∧ Below w.heap.size w w' := by
  have H1 := Lib.hid h1
  have H2 := Lib.hid h2
  clear h1 h2
  have en : ((l.length : Int) != (l.length : Int)) = false := by simp
  go_enter Tryd.func8, Tryd.ntmps8
  go_wp2_with fail
  go_loopw [5] (fun i wr => ∃ k : Nat, k ≤ l.length ∧ i = .int .i64 (k : Int) ∧ Below w.heap.size w wr) (fun i _ => l.length - (intOf i).toNat)
  case atStart => exact ⟨0, Nat.zero_le _, rfl, Below.refl _ _⟩
  case round =>
    obtain ⟨k, hk, rfl, hb⟩ := hrel
    by_cases hlt : k < l.length
    · obtain ⟨g1, rfl⟩ : ∃ g, a1 = some ⟨g, 0, none⟩ := by
        rcases H1.out.2 with ⟨-, e⟩ | ⟨g, _, _, e, -⟩
        · omega
        · cases e; exact ⟨g, rfl⟩
      obtain ⟨g2, rfl⟩ : ∃ g, a2 = some ⟨g, 0, none⟩ := by
        rcases H2.out.2 with ⟨-, e⟩ | ⟨g, _, _, e, -⟩
        · omega
        · cases e; exact ⟨g, rfl⟩
      have k1 := (hb.cell (p := ⟨g1, k, none⟩) (H1.out.lt g1 rfl).2).trans (H1.out.cellAt k (by omega))
      have k2 := (hb.cell (p := ⟨g2, k, none⟩) (H2.out.lt g2 rfl).2).trans (H2.out.cellAt k (by omega))
      rw [icells_at l k hlt] at k1 k2
      have ib : (k : Int) < (l.length : Int) := by omega
      generalize l[k] = x at *
      have ex : (x != x) = false := by simp
      go_wp2_with fail
      go_quiet (fail)
      go_wp2
      go_roundw
      case rel => exact ⟨k + 1, by omega, by go_num, hb.trans (below_drewN _ _ _)⟩
      case measure => simp [intOf]; omega
    · obtain rfl : k = l.length := by omega
      go_wp2
      go_ret
      exact ⟨rfl, hb⟩
end Go.Proofs.YtllobejhkajobaaDoor
