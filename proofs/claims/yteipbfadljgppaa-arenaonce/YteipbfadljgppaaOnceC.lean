/- ArenaOnce: what stands behind the making. -/
import Derived.Test.YteipbfadljgppaaOnceM
namespace Go.Proofs.Yteipbfadljgppaa
open Go.RowKit Go.Maps

/-- Handles with their nodes, the first k of those that are reached. -/
def backTo (ns : List Nd) (M : List Bool) (k : Nat) : List (Int × Nd) := ((reachTo M ns.length).take k).map fun x => (x, nd ns (x - 2).toNat)
theorem backTo_length (ns : List Nd) (M : List Bool) (k : Nat) (h : k ≤ (reachTo M ns.length).length) : (backTo ns M k).length = k := by
  unfold backTo; rw [List.length_map, List.length_take]; omega
theorem backTo_succ (ns : List Nd) (M : List Bool) (k : Nat) (h : k < (reachTo M ns.length).length) : backTo ns M (k + 1) = backTo ns M k ++ [((reachTo M ns.length)[k], nd ns ((reachTo M ns.length)[k] - 2).toNat)] := by
  unfold backTo; rw [List.take_succ_eq_append_getElem h, List.map_append]; rfl
theorem reachTo_nodup (M : List Bool) (k : Nat) : (reachTo M k).Nodup := by
  unfold reachTo
  have : ∀ (l : List Nat), l.Nodup → (l.map fun i : Nat => 2 + (i : Int)).Nodup := by
    intro l
    induction l with
    | nil => intro _; exact List.nodup_nil
    | cons a l ih =>
      intro hn
      rw [List.nodup_cons] at hn
      rw [List.map_cons, List.nodup_cons]
      refine ⟨fun hm => ?_, ih hn.2⟩
      obtain ⟨j, hj, he⟩ := List.mem_map.1 hm
      have : j = a := by omega
      exact hn.1 (this ▸ hj)
  exact this _ (List.Nodup.sublist List.filter_sublist List.nodup_range)
theorem backTo_new (ns : List Nd) (M : List Bool) (k : Nat) (h : k < (reachTo M ns.length).length) : (reachTo M ns.length)[k] ∉ (backTo ns M k).map Prod.fst := by
  unfold backTo
  rw [List.map_map]
  have e : (Prod.fst ∘ fun x : Int => (x, nd ns (x - 2).toNat)) = id := rfl
  rw [e, List.map_id]
  intro hm
  obtain ⟨j, hj, he⟩ := List.getElem_of_mem hm
  rw [List.length_take] at hj
  rw [List.getElem_take] at he
  have := (List.getElem_inj (h₀ := by omega) (h₁ := h) (reachTo_nodup M ns.length)).1 he
  omega
theorem reach_at (M : List Bool) (n k : Nat) (h : k < (reachTo M n).length) : ∃ j : Nat, j < n ∧ mk M j = true ∧ (reachTo M n)[k] = 2 + (j : Int) := mem_reachTo.1 (List.getElem_mem h)
theorem back_mem {ns : List Nd} {M : List Bool} {j : Nat} (hj : j < ns.length) (hm : mk M j = true) : (2 + (j : Int), nd ns j) ∈ backTo ns M (reachTo M ns.length).length := by
  unfold backTo
  rw [List.take_length]
  refine List.mem_map.2 ⟨2 + (j : Int), mem_reachTo.2 ⟨j, hj, hm, rfl⟩, ?_⟩
  rw [show (2 + (j : Int) - 2).toNat = j by omega]
theorem back_not {ns : List Nd} {M : List Bool} {j : Nat} (hm : mk M j = false) : 2 + (j : Int) ∉ (backTo ns M (reachTo M ns.length).length).map Prod.fst := by
  unfold backTo
  rw [List.take_length, List.map_map]
  have e : (Prod.fst ∘ fun x : Int => (x, nd ns (x - 2).toNat)) = id := rfl
  rw [e, List.map_id]
  intro h
  obtain ⟨i, -, hi, e2⟩ := mem_reachTo.1 h
  have : i = j := by omega
  rw [this, hm] at hi; cases hi

/-- What stands from the first Reach on. -/
structure Rest (B : Nat) (W0 w : World) (b bm bo bb : Nat) (v : Value) (la : Option Addr) (lc : Nat) (ns : List Nd) (M : List Bool) (k : Nat) (an : List Nd) (aL : List (Nd × Int)) (anext : Int) : Prop where
  arena : ArenaAt B w b bm v an aL 100 anext
  lrow : w.ownsRow B 3 1 (.slice la (reachTo M ns.length).length lc) (reachTo M ns.length).length (icells (reachTo M ns.length))
  back : ∃ D, w.ownsMap Try.prog 3 ndElem bb (backTo ns M k).length D ∧ BRep D (backTo ns M k)
  o1 : ¬ Own b bm v bo
  o2 : ∀ k, (Value.slice la (reachTo M ns.length).length lc).ownBlock = some k → ¬ Own b bm v k ∧ k ≠ bo ∧ k ≠ bb
  o3 : ¬ Own b bm v bb
  o4 : bo ≠ bb
  Bb : B ≤ bb
  Bo : B ≤ bo
  below : Below B W0 w
  size : B ≤ w.heap.size

section
variable {B : Nat} {W0 w w' : World} {b bm bo bb : Nat} {v : Value} {la : Option Addr} {lc : Nat} {ns : List Nd} {M : List Bool} {k : Nat} {an : List Nd} {aL : List (Nd × Int)} {anext : Int}

theorem Rest.kept {S : Nat → Prop} (h : Rest B W0 w b bm bo bb v la lc ns M k an aL anext) (hk : Kept S w w') (hS : ∀ j, S j → j = bo ∨ w.heap.size ≤ j) : Rest B W0 w' b bm bo bb v la lc ns M k an aL anext := by
  obtain ⟨D, hD, hR⟩ := h.back
  have hbb := hD.lt
  have hA : ∀ j, Own b bm v j → ¬ S j := fun j ho hs => by
    rcases hS j hs with e | e
    · exact h.o1 (e ▸ ho)
    · have hlt := h.arena.lt
      obtain ⟨D0, hD0, -⟩ := h.arena.hmap
      have hlm := hD0.lt
      rcases ho with ho | ho | ho
      · omega
      · omega
      · have := (h.arena.row.lt j ho).2; omega
  have hl : ∀ j, (Value.slice la (reachTo M ns.length).length lc).ownBlock = some j → ¬ S j := fun j hj hs => by
    rcases hS j hs with e | e
    · exact (h.o2 j hj).2.1 e
    · have := (h.lrow.lt j hj).2; omega
  have hbbS : ¬ S bb := fun hs => by
    rcases hS bb hs with e | e
    · exact h.o4 e.symm
    · omega
  exact ⟨h.arena.kept hk hA, ownsRow_kept h.lrow hk hl, ⟨D, ownsMap_kept hD hk hbbS, hR⟩, h.o1, h.o2, h.o3, h.o4, h.Bb, h.Bo, kept_below h.below hk h.size (fun i hi => by
    rcases hS i hi with e | e
    · rw [e]; exact h.Bo
    · have := h.size; omega), Nat.le_trans h.size hk.size⟩

/-- One more pair in the map of handles. -/
theorem Rest.stored {D' : DataW Unit} (h : Rest B W0 w b bm bo bb v la lc ns M k an aL anext) (hk : Kept (fun j => j = bb) w w') (k' : Nat) (hD : w'.ownsMap Try.prog 3 ndElem bb (backTo ns M k').length D') (hR : BRep D' (backTo ns M k')) : Rest B W0 w' b bm bo bb v la lc ns M k' an aL anext :=
  ⟨h.arena.kept hk (fun j ho e => h.o3 (e ▸ ho)), ownsRow_kept h.lrow hk (fun j hj e => (h.o2 j hj).2.2 e), ⟨D', hD, hR⟩, h.o1, h.o2, h.o3, h.o4, h.Bb, h.Bo, kept_below h.below hk h.size (fun i hi => by rw [hi]; exact h.Bb), Nat.le_trans h.size hk.size⟩

/-- The arena is another one. -/
theorem Rest.turned {an' : List Nd} {aL' : List (Nd × Int)} {anext' : Int} (h : Rest B W0 w b bm bo bb v la lc ns M k an aL anext) (hk : Kept (Own b bm v) w w') (hA : ArenaAt B w' b bm v an' aL' 100 anext') : Rest B W0 w' b bm bo bb v la lc ns M k an' aL' anext' := by
  obtain ⟨D, hD, hR⟩ := h.back
  exact ⟨hA, ownsRow_kept h.lrow hk (fun j hj => (h.o2 j hj).1), ⟨D, ownsMap_kept hD hk h.o3, hR⟩, h.o1, h.o2, h.o3, h.o4, h.Bb, h.Bo, kept_below h.below hk h.size (own_ge h.arena), Nat.le_trans h.size hk.size⟩
end

/-- Behind the first Reach. -/
theorem rest_start {B : Nat} {W0 wr w1 w2 : World} {b bm bo : Nat} {v : Value} {a la : Option Addr} {cap lc : Nat} {ns : List Nd} {al : List Int} {next : Int} {M : List Bool} (hM : Making B W0 wr b bm bo v a cap ns al next) (hB : B ≤ wr.heap.size) (hb : Below wr.heap.size wr w1) (hr : w1.ownsRow wr.heap.size 3 1 (.slice la (reachTo M ns.length).length lc) (reachTo M ns.length).length (icells (reachTo M ns.length))) (e : w2 = w1.alloc (.map #[] 0)) :
    Rest B W0 w2 b bm bo w1.heap.size v la lc ns M 0 ns (pairsOf ns) next := by
  subst e
  have hs := hb.size
  have hk : Kept (fun _ => False) wr (w1.alloc (.map #[] 0)) := (Kept.of_below hb _).trans (Kept.alloc _ _ _)
  have hm : (w1.alloc (.map #[] 0)).ownsMap Try.prog 3 ndElem w1.heap.size 0 (.map []) := World.ownsMap_made w1 _ _ _
  have hlt := hM.arena.lt
  obtain ⟨D0, hD0, -⟩ := hM.arena.hmap
  have hlm := hD0.lt
  obtain ⟨D1, hD1, -⟩ := hM.ofs
  have hlo := hD1.lt
  have own : ∀ j, wr.heap.size ≤ j → ¬ Own b bm v j := fun j hj => by
    rintro (h | h | h)
    · omega
    · omega
    · have := (hM.arena.row.lt j h).2; omega
  refine ⟨hM.arena.kept hk (fun _ _ h => h), ownsRow_base (ownsRow_kept hr (Kept.alloc (fun _ => False) _ _) (fun _ _ h => h)) hB, ⟨_, hm, Rep.empty⟩, hM.o1, ?_, own _ hs, by omega, by omega, hM.Bo, kept_below hM.below hk hB (fun _ h => h.elim), Nat.le_trans hB hk.size⟩
  intro j hj
  have := hr.lt j hj
  exact ⟨own j this.1, by omega, by omega⟩
end Go.Proofs.Yteipbfadljgppaa
