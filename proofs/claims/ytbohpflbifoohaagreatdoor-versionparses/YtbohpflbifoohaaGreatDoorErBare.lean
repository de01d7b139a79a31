/- plain.Place and the laws' 'bare', by their contracts: of nil and of a plain Errno. -/
import Derived.Test.YtbohpflbifoohaaGreatDoorErTell
namespace Go.Proofs.YtbohpflbifoohaaGreatDoor
open Go.RowKit Go.Extern.Stop Go.Stop Go.Extern

set_option maxRecDepth 100000 in
set_option maxHeartbeats 1000000 in
theorem place_nil (w : World) : Calls Tryz.prog 47 #[.nilIface] w fun e w' => e = .returned (.tuple #[.int .i64 0, .int .i64 (-1)]) ∧ w = w' := by
  go_enter Tryz.func47, Tryz.ntmps47
  go_wp2_with fail
  refine (tell_nil _).mono ?_
  rintro e w' ⟨rfl, rfl⟩
  go_wp2_with fail
  refine wp_loop_rounds 1 ?_
  rw [rounds_succ]
  go_wp2
  go_ret2
  exact ⟨rfl, rfl⟩

theorem noAt (n : Int) (w : World) : (Instr.typeAssert (.iface 25 (.int .i64 n)) 29 111 true).run Tryz.prog w = .ok (.tuple #[.pointer none, .bool false]) w := by kernel_rfl
theorem noUnwrap (n : Int) (w : World) : (Instr.typeAssert (.iface 25 (.int .i64 n)) 29 115 true).run Tryz.prog w = .ok (.tuple #[.nilIface, .bool false]) w := run_typeAssert_lacksB Tryz.underlying115 (by kernel_rfl) (by kernel_rfl) _ 29 w

set_option maxRecDepth 100000 in
set_option maxHeartbeats 1000000 in
theorem place_errno (n : Int) (w : World) (hg : Glob w) : Calls Tryz.prog 47 #[.iface 25 (.int .i64 n)] w fun e w' => e = .returned (.tuple #[.int .i64 n, .int .i64 (-1)]) ∧ Below w.heap.size w w' := by
  have H := tell_errno n w hg
  have h1 := noAt n
  have h2 := noUnwrap n
  go_enter Tryz.func47, Tryz.ntmps47
  go_wp2_with fail
  refine H.mono ?_
  rintro e w' ⟨rfl, hb⟩
  clear H
  go_wp2_with fail
  refine wp_loop_rounds 1 ?_
  rw [rounds_succ]
  go_wp2
  go_ret2
  exact ⟨rfl, hb⟩

/-- The Errno of an error: nil or a plain one. -/
def errOf (m : Int) : Value := if m = 0 then .nilIface else .iface 25 (.int .i64 m)

theorem place_any (m : Int) (w : World) (hg : Glob w) : Calls Tryz.prog 47 #[errOf m] w fun e w' => e = .returned (.tuple #[.int .i64 m, .int .i64 (-1)]) ∧ Below w.heap.size w w' := by
  by_cases h : m = 0
  · subst h
    exact (place_nil w).mono fun e w' ⟨he, hw⟩ => ⟨he, hw ▸ Below.refl _ _⟩
  · unfold errOf
    rw [if_neg h]
    exact place_errno m w hg

set_option maxRecDepth 100000 in
set_option maxHeartbeats 1000000 in
theorem refBare (k : Int) (w : World) : Calls Tryz.prog 39 #[.int .i64 k] w fun e w' => e = .returned (.agg #[.int .i64 k, .int .i64 (-1)]) ∧ Below w.heap.size w w' := by
  go_enter Tryz.func39, Tryz.ntmps39
  go_wp2
  exact bodyPost_ret (v := .agg #[.int .i64 k, .int .i64 (-1)]) (by simp [results, Tryz.results39, go_sem]) rfl ⟨rfl, (Below.refl _ _).alloc (Nat.le_refl _) _⟩

set_option maxRecDepth 100000 in
set_option maxHeartbeats 1000000 in
theorem at_any (m k pl pk : Int) (v : Value) (w : World) (H : ∀ W : World, Below w.heap.size w W → Calls Tryz.prog 47 #[v] W fun e w' => e = .returned (.tuple #[.int .i64 m, .int .i64 pl]) ∧ Below W.heap.size W w') :
    Calls Tryz.prog 18 #[v, .agg #[.int .i64 k, .int .i64 pk]] w fun e w' => e = .returned (.bool (m == k && pl == pk)) ∧ Below w.heap.size w w' := by
  have HH : Hid (∀ W : World, Below w.heap.size w W → Calls Tryz.prog 47 #[v] W fun e w' => e = .returned (.tuple #[.int .i64 m, .int .i64 pl]) ∧ Below W.heap.size W w') := H
  clear H
  have hb1 : Below w.heap.size w (w.alloc (.cells #[.int .i64 k, .int .i64 pk] 41)) := (Below.refl _ _).alloc (Nat.le_refl _) _
  have fin : ∀ q r : Bool, (m == k) = q → (pl == pk) = r → Calls Tryz.prog 18 #[v, .agg #[.int .i64 k, .int .i64 pk]] w fun e w' => e = .returned (.bool (q && r)) ∧ Below w.heap.size w w' := by
    intro q r hq hr
    cases q <;> cases r
    all_goals
      go_enter Tryz.func18, Tryz.ntmps18
      go_wp2_with fail
      refine (HH.out _ hb1).mono ?_
      rintro e w2 ⟨rfl, hb2⟩
      have c0 : w2.cell? ⟨w.heap.size, 0, none⟩ = some (.int .i64 k) := (hb2.cell (p := ⟨w.heap.size, 0, none⟩) (by simp)).trans (by simp)
      have c1 : w2.cell? ⟨w.heap.size, 1, none⟩ = some (.int .i64 pk) := (hb2.cell (p := ⟨w.heap.size, 1, none⟩) (by simp)).trans (by simp)
      have hb3 : Below w.heap.size w w2 := hb1.trans (hb2.mono (by simp))
      clear hb2
      go_wp2
      go_ret
      exact ⟨rfl, hb3⟩
  exact fin _ _ rfl rfl

set_option maxRecDepth 100000 in
set_option maxHeartbeats 1000000 in
theorem bare_core (m k pl : Int) (v : Value) (w : World) (H : ∀ W : World, Below w.heap.size w W → Calls Tryz.prog 47 #[v] W fun e w' => e = .returned (.tuple #[.int .i64 m, .int .i64 pl]) ∧ Below W.heap.size W w') :
    Calls Tryz.prog 11 #[v, .int .i64 k] w fun e w' => e = .returned (.bool (m == k && pl == -1)) ∧ Below w.heap.size w w' := by
  have HH : Hid (∀ W : World, Below w.heap.size w W → Calls Tryz.prog 47 #[v] W fun e w' => e = .returned (.tuple #[.int .i64 m, .int .i64 pl]) ∧ Below W.heap.size W w') := H
  clear H
  generalize hz : (m == k && pl == -1) = z
  go_enter Tryz.func11, Tryz.ntmps11
  go_wp2_with fail
  refine (refBare k _).mono ?_
  rintro e w1 ⟨rfl, hb1⟩
  have HA := at_any m k pl (-1) v w1 (fun W hW => HH.out W (hb1.trans (hW.mono hb1.size)))
  rw [hz] at HA
  clear hz
  go_wp2_with fail
  refine HA.mono ?_
  rintro e w2 ⟨rfl, hb2⟩
  go_wp2
  go_ret
  exact ⟨rfl, hb1.trans (hb2.mono hb1.size)⟩

theorem bare_errno (m k : Int) (w : World) (hg : Glob w) : Calls Tryz.prog 11 #[.iface 25 (.int .i64 m), .int .i64 k] w fun e w' => e = .returned (.bool (m == k)) ∧ Below w.heap.size w w' := by
  have := bare_core m k (-1) (.iface 25 (.int .i64 m)) w (fun W hW => place_errno m W (hg.below hW))
  simpa using this
theorem bare_nil (k : Int) (w : World) : Calls Tryz.prog 11 #[.nilIface, .int .i64 k] w fun e w' => e = .returned (.bool (0 == k)) ∧ Below w.heap.size w w' := by
  have := bare_core 0 k (-1) .nilIface w (fun W _ => (place_nil W).mono fun e w' ⟨he, hw⟩ => ⟨he, hw ▸ Below.refl _ _⟩)
  simpa using this
end Go.Proofs.YtbohpflbifoohaaGreatDoor
