/- Tables: how they begin. -/
import Derived.Test.YtacgoopgifoojaaBdTabA
namespace Go.Proofs.Ytacgoopgifoojaa
open Go.RowKit Go.Maps

theorem infoTable : (Try.prog.info? 35).map (fun i => (i.zero, i.size, i.bytes)) = some (some (.slice none 0 0), 1, 24) := by kernel_rfl
theorem make_tab (n : Nat) (hn : n ≤ 64) (W : World) : (Instr.makeSlice 35 (.int .i64 (n : Int)) (.int .i64 (n : Int))).run Try.prog W = .ok (.slice (some ⟨W.heap.size, 0, none⟩) n n) (W.alloc (.cells (madeCells #[.bool false] n) 4)) := by
  obtain ⟨i0, hi, hz0, hz1, hz2⟩ := info_parts infoBool
  have h := run_make (P := Try.prog) W 35 4 i0 (.bool false) Try.underlying35 hi hz0 .i64 .i64 n n (by omega) (Int.le_refl _) (by rw [hz2]; omega) (by omega)
  rw [h, hz1, Nat.mul_one, Int.toNat_natCast]
  rfl
theorem mcells_setB (m : List Bool) (i : Nat) (b : Bool) : (mcells m).set i (.bool b) = mcells (m.set i b) := by simp [mcells, List.map_set]
theorem made_row (w : World) {B : Nat} (hB : B ≤ w.heap.size) (n : Nat) (hn : n ≤ 64) : (w.alloc (.cells (madeCells #[.bool false] n) 4)).ownsRow B 4 1 (.slice (some ⟨w.heap.size, 0, none⟩) n n) n (mcells (List.replicate n false)) := by
  have h := built_row w hB (madeCells #[.bool false] n) 4 (by rw [size_madeCells]; unfold maxLen; omega)
  rw [size_madeCells, mcells_made] at h
  exact h

/-- Two tables, and the list of them, anew. -/
structure Start (B : Nat) (w : World) (n g0 g1 go : Nat) (l : List Bool) : Prop where
  t0 : BoolsAt w g0 (List.replicate n false)
  t1 : w.ownsRow B 4 1 (.slice (some ⟨g1, 0, none⟩) n n) n (mcells l)
  row : w.ownsRow B 35 1 (.slice (some ⟨go, 0, none⟩) 2 2) 2 (tcells n [g0, g1])
  b0 : B ≤ g0
  n01 : g0 ≠ g1
  n0 : go ≠ g0
  n1 : go ≠ g1
theorem start_new (w : World) {B : Nat} (hB : B ≤ w.heap.size) (n : Nat) (hn : n ≤ 64) (g0 g1 : Nat) (hg : g0 = w.heap.size ∧ g1 = w.heap.size + 1 ∨ g0 = w.heap.size + 1 ∧ g1 = w.heap.size) :
    Start B (((w.alloc (.cells (madeCells #[.bool false] n) 4)).alloc (.cells (madeCells #[.bool false] n) 4)).alloc (.cells #[.slice (some ⟨g0, 0, none⟩) n n, .slice (some ⟨g1, 0, none⟩) n n] 35)) n g0 g1 (w.heap.size + 1 + 1) (List.replicate n false) := by
  have s1 : (w.alloc (.cells (madeCells #[.bool false] n) 4)).heap.size = w.heap.size + 1 := by simp
  have s2 : ((w.alloc (.cells (madeCells #[.bool false] n) 4)).alloc (.cells (madeCells #[.bool false] n) 4)).heap.size = w.heap.size + 1 + 1 := by rw [World.size_alloc, s1]
  have r1 := made_row w hB n hn
  have r2 := made_row (w.alloc (.cells (madeCells #[.bool false] n) 4)) (B := B) (by omega) n hn
  have r3 := ownsRow_new r1 (below_new _ (.cells (madeCells #[.bool false] n) 4))
  have r4 := ownsRow_new r3 (below_new _ (.cells #[.slice (some ⟨g0, 0, none⟩) n n, .slice (some ⟨g1, 0, none⟩) n n] 35))
  have r5 := ownsRow_new r2 (below_new _ (.cells #[.slice (some ⟨g0, 0, none⟩) n n, .slice (some ⟨g1, 0, none⟩) n n] 35))
  have r6 := built_row ((w.alloc (.cells (madeCells #[.bool false] n) 4)).alloc (.cells (madeCells #[.bool false] n) 4)) (B := B) (by omega) #[.slice (some ⟨g0, 0, none⟩) n n, .slice (some ⟨g1, 0, none⟩) n n] 35 (by simp [maxLen])
  rw [s1] at r5
  rw [s2] at r6
  rcases hg with ⟨rfl, rfl⟩ | ⟨rfl, rfl⟩
  · exact ⟨bools_row r4 (by simp), r5, r6, by omega, by omega, by omega, by omega⟩
  · exact ⟨bools_row r5 (by simp), r4, r6, by omega, by omega, by omega, by omega⟩

theorem tab_false (vars : Nat) : tabOf vars (fun _ => false) = List.replicate (2 ^ vars) false := by
  apply List.ext_getElem
  · rw [tabOf_len]; simp
  · intro i h1 h2; rw [tabOf_at]; simp
theorem tab_true (vars : Nat) : tabOf vars (fun _ => true) = List.replicate (2 ^ vars) true := by
  apply List.ext_getElem
  · rw [tabOf_len]; simp
  · intro i h1 h2; rw [tabOf_at]; simp
theorem Start.tabs {B : Nat} {w : World} {vars n g0 g1 go : Nat} (hn : 2 ^ vars = n) (h : Start B w n g0 g1 go (List.replicate n true)) : TabsAt B w (.slice (some ⟨go, 0, none⟩) 2 2) n [g0, g1] (([fun _ => false, fun _ => true] : List Fn').map (tabOf vars)) := by
  subst hn
  refine ⟨h.row, rfl, fun t ht => ?_, fun g hg => ?_, fun g hg => ?_, fun j h1 h2 => ?_⟩
  · obtain ⟨g, -, rfl⟩ := List.mem_map.1 ht
    exact tabOf_len _ _
  · simp at hg
    rcases hg with rfl | rfl
    · exact h.b0
    · exact (h.t1.lt _ rfl).1
  · simp at hg
    rcases hg with rfl | rfl
    · intro e; exact h.n0 (by simpa [Value.ownBlock] using e)
    · intro e; exact h.n1 (by simpa [Value.ownBlock] using e)
  · have h3 : j < 2 := h1
    obtain rfl | rfl : j = 0 ∨ j = 1 := by omega
    · have h4 := h.t0
      rw [← tab_false] at h4
      exact h4
    · have h4 := bools_row h.t1 (by simp)
      rw [← tab_true] at h4
      exact h4

end Go.Proofs.Ytacgoopgifoojaa
