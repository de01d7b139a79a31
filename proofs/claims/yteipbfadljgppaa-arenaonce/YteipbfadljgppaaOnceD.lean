/- ArenaOnce: what its last two loops keep. -/
import Derived.Test.YteipbfadljgppaaOnceC
namespace Go.Proofs.Yteipbfadljgppaa
open Go.RowKit Go.Maps

section
variable {B : Nat} {W0 w w' : World} {b bm bo bb : Nat} {v : Value} {la : Option Addr} {lc : Nat} {ns : List Nd} {M : List Bool} {k : Nat} {an : List Nd} {aL : List (Nd × Int)} {anext : Int}

/-- A block that is none of those that count. -/
structure Aside (B : Nat) (b bm bb : Nat) (v : Value) (lv : Value) (j : Nat) : Prop where
  own : ¬ Own b bm v j
  back : j ≠ bb
  list : lv.ownBlock ≠ some j
  ge : B ≤ j

theorem Rest.aside (h : Rest B W0 w b bm bo bb v la lc ns M k an aL anext) {j : Nat} (hj : w.heap.size ≤ j) : Aside B b bm bb v (.slice la (reachTo M ns.length).length lc) j := by
  obtain ⟨D, hD, -⟩ := h.back
  have hbb := hD.lt
  have hlt := h.arena.lt
  obtain ⟨D0, hD0, -⟩ := h.arena.hmap
  have hlm := hD0.lt
  have hs := h.size
  refine ⟨?_, by omega, fun e => by have := (h.lrow.lt j e).2; omega, by omega⟩
  rintro (ho | ho | ho)
  · omega
  · omega
  · have := (h.arena.row.lt j ho).2; omega

theorem Rest.beside {r : Nat} (h : Rest B W0 w b bm bo bb v la lc ns M k an aL anext) (hk : Kept (fun j => j = r) w w') (hr : Aside B b bm bb v (.slice la (reachTo M ns.length).length lc) r) : Rest B W0 w' b bm bo bb v la lc ns M k an aL anext := by
  obtain ⟨D, hD, hR⟩ := h.back
  exact ⟨h.arena.kept hk (fun j ho e => hr.own (e ▸ ho)), ownsRow_kept h.lrow hk (fun j hj e => hr.list (e ▸ hj)), ⟨D, ownsMap_kept hD hk (fun e => hr.back e.symm), hR⟩, h.o1, h.o2, h.o3, h.o4, h.Bb, h.Bo, kept_below h.below hk h.size (fun i hi => by rw [hi]; exact hr.ge), Nat.le_trans h.size hk.size⟩
end

theorem LTo_in {ns : List Nd} {M : List Bool} {j : Nat} (hj : j < ns.length) (hm : mk M j = true) : (nd ns j, 2 + (j : Int)) ∈ LTo (pairsOf ns) M ns.length := by
  unfold LTo
  rw [List.mem_filter]
  refine ⟨mem_pairsOf.2 ⟨j, hj, rfl⟩, ?_⟩
  simp only
  rw [show (2 + (j : Int) - 2).toNat = j by omega, hm, Bool.or_true]

theorem swept_fit {ns : List Nd} {M : List Bool} (hF : Full ns) (hr : Ranked (swept ns M)) {j : Nat} (hj : j < ns.length) (hm : mk M j = true) : Fit (swept ns M) (nd ns j) := by
  have e : nd (swept ns M) j = nd ns j := by rw [swept_at ns M j hj, if_pos hm]
  have h1 := hr.l j (by rw [swept_length]; exact hj) (by rw [e]; exact hF.occ j hj)
  have h2 := hr.h j (by rw [swept_length]; exact hj) (by rw [e]; exact hF.occ j hj)
  rw [e] at h1 h2
  exact ⟨(hF.ranked.v0 j hj).1, hF.occ j hj, h1.2, h2.2, h1.1, h2.1⟩
end Go.Proofs.Yteipbfadljgppaa
