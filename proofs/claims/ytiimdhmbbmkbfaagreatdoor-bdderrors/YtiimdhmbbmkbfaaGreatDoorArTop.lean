/- An arena as it lies in memory; Top, Has, Get, Len. -/
import Derived.Test.YtiimdhmbbmkbfaaGreatDoorArBase
namespace Go.Proofs.YtiimdhmbbmkbfaaGreatDoor
open Go.RowKit Go.Maps

def ncells (ns : List Nd) : List Value := ns.flatMap fun n => [.int .i64 n.v, .int .i64 n.l, .int .i64 n.h]
def nd (ns : List Nd) (i : Nat) : Nd := ns.getD i ⟨0, 0, 0⟩
theorem nd_at (ns : List Nd) (i : Nat) (h : i < ns.length) : nd ns i = ns[i] := by unfold nd; simp [List.getD_eq_getElem?_getD, List.getElem?_eq_getElem h]
theorem nd_mem (ns : List Nd) (i : Nat) (h : i < ns.length) : nd ns i ∈ ns := by rw [nd_at ns i h]; exact List.getElem_mem h
theorem ncells_length (ns : List Nd) : (ncells ns).length = ns.length * 3 := by
  induction ns with
  | nil => rfl
  | cons n ns ih => unfold ncells at *; rw [List.flatMap_cons, List.length_append, ih]; simp; omega
theorem ncells_append (a b : List Nd) : ncells (a ++ b) = ncells a ++ ncells b := by simp [ncells]
theorem ncells_at : ∀ (ns : List Nd) (i : Nat), i < ns.length → (ncells ns)[i * 3]? = some (.int .i64 (nd ns i).v) ∧ (ncells ns)[i * 3 + 1]? = some (.int .i64 (nd ns i).l) ∧ (ncells ns)[i * 3 + 2]? = some (.int .i64 (nd ns i).h)
  | [], i, h => by simp at h
  | n :: ns, 0, _ => by simp [ncells, nd]
  | n :: ns, i + 1, h => by
    have ih := ncells_at ns i (by simpa using h)
    have e : nd (n :: ns) (i + 1) = nd ns i := by simp [nd]
    rw [e]
    have e2 : ∀ j, (ncells (n :: ns))[j + 3]? = (ncells ns)[j]? := fun j => by
      show ([Value.int .i64 n.v, .int .i64 n.l, .int .i64 n.h] ++ ncells ns)[j + 3]? = _
      rw [List.getElem?_append_right (by simp)]; simp
    rw [show (i + 1) * 3 = i * 3 + 3 by omega, show i * 3 + 3 + 1 = (i * 3 + 1) + 3 by omega, show i * 3 + 3 + 2 = (i * 3 + 2) + 3 by omega, e2, e2, e2]
    exact ih

/-- The arena's own blocks. -/
def Own (b bm : Nat) (v : Value) (k : Nat) : Prop := k = b ∨ k = bm ∨ v.ownBlock = some k

structure ArenaAt (B : Nat) (w : World) (b bm : Nat) (v : Value) (ns : List Nd) (L : List (Nd × Int)) (room next : Int) : Prop where
  lt : b < w.heap.size
  croom : w.cell? ⟨b, 0, none⟩ = some (.int .i64 room)
  cnodes : w.cell? ⟨b, 1, none⟩ = some v
  cmap : w.cell? ⟨b, 2, none⟩ = some (.map (some bm))
  cnext : w.cell? ⟨b, 3, none⟩ = some (.int .i64 next)
  froz : ∀ i, w.frozen? ⟨b, i, none⟩ = false
  row : w.ownsRow B 99 3 v ns.length (ncells ns)
  hmap : ∃ D, w.ownsMap Tryz.prog 99 (plainElem Tryz.prog 3) bm L.length D ∧ Rep Nd.Ok Nd.lit (fun x : Int => .lit (.int .i64 x)) D L
  d1 : v.ownBlock ≠ some b
  d2 : bm ≠ b
  d3 : v.ownBlock ≠ some bm
  B1 : B ≤ b
  B2 : B ≤ bm

section
variable {B b bm : Nat} {w w' : World} {v : Value} {ns : List Nd} {L : List (Nd × Int)} {room next : Int}

theorem ownsRow_kept {S : Nat → Prop} {e : TypeId} {size n : Nat} {xs : List Value} (h : w.ownsRow B e size v n xs) (hk : Kept S w w') (hn : ∀ k, v.ownBlock = some k → ¬ S k) : w'.ownsRow B e size v n xs := by
  refine ⟨h.1, ?_⟩
  rcases h.2 with h1 | ⟨g, cap, cur, h1, h2, h3, h4⟩
  · exact .inl h1
  · refine .inr ⟨g, cap, cur, h1, h2, ?_, h4⟩
    have hlt : g < w.heap.size := by
      by_cases hl : g < w.heap.size
      · exact hl
      · rw [Array.getElem?_eq_none (by omega)] at h3; simp at h3
    rw [hk.block g hlt (hn g (by rw [h1]; rfl))]; exact h3

theorem ownsMap_kept {S : Nat → Prop} {k : TypeId} {R : Value → Option (DataW Unit × List MemPlace)} {n : Nat} {D : DataW Unit} (h : w.ownsMap Tryz.prog k R bm n D) (hk : Kept S w w') (hn : ¬ S bm) : w'.ownsMap Tryz.prog k R bm n D := by
  have hlt := h.lt
  obtain ⟨es, clock, h1, h2⟩ := h
  exact ⟨es, clock, (hk.block bm hlt hn).trans h1, h2⟩

theorem ArenaAt.kept {S : Nat → Prop} (h : ArenaAt B w b bm v ns L room next) (hk : Kept S w w') (hn : ∀ k, Own b bm v k → ¬ S k) : ArenaAt B w' b bm v ns L room next := by
  have hb := hn b (.inl rfl)
  obtain ⟨D, hD, hR⟩ := h.hmap
  exact ⟨Nat.lt_of_lt_of_le h.lt hk.size, (hk.cell (a := ⟨b, 0, none⟩) h.lt hb).trans h.croom, (hk.cell (a := ⟨b, 1, none⟩) h.lt hb).trans h.cnodes, (hk.cell (a := ⟨b, 2, none⟩) h.lt hb).trans h.cmap, (hk.cell (a := ⟨b, 3, none⟩) h.lt hb).trans h.cnext, fun i => (hk.frozen (a := ⟨b, i, none⟩) h.lt hb).trans (h.froz i),
    ownsRow_kept h.row hk (fun k hv => hn k (.inr (.inr hv))), ⟨D, ownsMap_kept hD hk (hn bm (.inr (.inl rfl))), hR⟩, h.d1, h.d2, h.d3, h.B1, h.B2⟩

theorem ArenaAt.form (h : ArenaAt B w b bm v ns L room next) : ∃ a cap, v = .slice a ns.length cap ∧ (ns.length ≠ 0 → ∃ g, a = some ⟨g, 0, none⟩ ∧ B ≤ g ∧ g < w.heap.size) := by
  rcases h.row.2 with ⟨h1, h2⟩ | ⟨g, cap, cur, h1, hB, _, h2, _⟩
  · exact ⟨none, 0, by rw [h1, h2], fun h => absurd h2 h⟩
  · exact ⟨_, cap, h1, fun _ => ⟨g, rfl, hB, (h.row.lt g (by rw [h1]; rfl)).2⟩⟩
end

/-- A handle's variable. -/
def topOf (ns : List Nd) (h : Int) : Int := if 2 ≤ h ∧ h < 2 + (ns.length : Int) then (nd ns (h - 2).toNat).v else 24

set_option maxRecDepth 100000 in
set_option maxHeartbeats 1000000 in
theorem top_any {B b bm : Nat} {w : World} {v : Value} {ns : List Nd} {L : List (Nd × Int)} {room next : Int} (hA : ArenaAt B w b bm v ns L room next) (h : Int) (hi : I64 h) (hl : ns.length ≤ 1000000) :
    Calls Tryz.prog 32 #[.pointer (some ⟨b, 0, none⟩), .int .i64 h] w fun e w' => e = .returned (.int .i64 (topOf ns h)) ∧ w = w' := by
  obtain ⟨hi0, hi1⟩ := hi
  obtain ⟨a, cap, rfl, hg⟩ := hA.form
  have cn := hA.cnodes
  have HR := Lib.hid hA.row
  have HG := Lib.hid hg
  clear hA hg
  unfold topOf
  by_cases hc : 2 ≤ h ∧ h < 2 + (ns.length : Int)
  · rw [if_pos hc]
    obtain ⟨h2, h3⟩ := hc
    obtain ⟨i, e2⟩ : ∃ i : Nat, h - 2 = (i : Int) := ⟨(h - 2).toNat, by omega⟩
    obtain ⟨g, rfl, -⟩ := HG.out (by omega)
    have e1 : (h - 2).toNat = i := by omega
    rw [e1]
    have hil : i < ns.length := by omega
    have ci := HR.out.cellAt (i * 3) (by omega)
    rw [(ncells_at ns i hil).1] at ci
    generalize (nd ns i).v = x at *
    clear e1 HR HG
    go_enter Tryz.func32, Tryz.ntmps32
    go_wp2
    go_ret
    exact ⟨rfl, rfl⟩
  · rw [if_neg hc]
    by_cases h2 : h < 2
    · clear hc HR HG
      go_enter Tryz.func32, Tryz.ntmps32
      go_wp2
      go_ret
      exact ⟨rfl, rfl⟩
    · have h3 : 2 + (ns.length : Int) ≤ h := by omega
      clear hc HR HG
      go_enter Tryz.func32, Tryz.ntmps32
      go_wp2
      go_ret
      exact ⟨rfl, rfl⟩
end Go.Proofs.YtiimdhmbbmkbfaaGreatDoor
