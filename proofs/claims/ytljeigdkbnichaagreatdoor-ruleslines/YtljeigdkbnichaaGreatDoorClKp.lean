/- Clauses that stay; rows in blocks of other types. -/
import Derived.Test.YtljeigdkbnichaaGreatDoorClRow
import Derived.Deep.MidRow
import Derived.WalkSmall
import Derived.Deep.RegionLaw
namespace Go.Proofs.YtljeigdkbnichaaGreatDoor
open Go.RowKit Go.Deep

/-- What lay there ahead of the call, and blocks of ints, are as they were. -/
structure Kp (B : Nat) (w w' : World) : Prop where
  size : w.heap.size ≤ w'.heap.size
  block : ∀ k, k < w.heap.size → (k < B ∨ ∃ cur fr, w.heap[k]? = some (.cells cur 3 fr)) → w'.heap[k]? = w.heap[k]?
section
variable {B : Nat} {w w' w'' : World}
theorem Kp.refl (B : Nat) (w : World) : Kp B w w := ⟨Nat.le_refl _, fun _ _ _ => rfl⟩
theorem Kp.trans (h : Kp B w w') (h2 : Kp B w' w'') : Kp B w w'' := ⟨Nat.le_trans h.size h2.size, fun k hk hc => by
  have e := h.block k hk hc
  rw [← e]
  refine h2.block k (Nat.lt_of_lt_of_le hk h.size) ?_
  rw [e]; exact hc⟩
theorem Kp.zero (h : Kp B w w') : Kp 0 w w' := ⟨h.size, fun k hk hc => h.block k hk (hc.imp (fun h => by omega) id)⟩
theorem Kp.new (hb : Below w.heap.size w w') : Kp B w w' := ⟨hb.size, fun k hk _ => hb.block k hk⟩
theorem Kp.set {b i : Nat} {t : TypeId} {cs : Array Value} {v : Value} (hB : B ≤ b) (h : Blk w b t cs) (ht : t ≠ 3) : Kp B w (w.setCell ⟨b, i, none⟩ v) := by
  refine ⟨by simp [World.setCell], fun k hk hc => Below.heap_setCell _ _ _ k (fun e => ?_)⟩
  have e' : k = b := e
  subst e'
  rcases hc with hc | ⟨cur, fr, hc⟩
  · omega
  · rw [show w.heap[k]? = _ from h] at hc
    simp only [Option.some.injEq, Obj.cells.injEq] at hc
    exact ht hc.2.1
theorem Kp.grown {e : TypeId} {size n : Nat} {v : Value} {xs : List Value} (h : w.ownsRow B e size v n xs) (hg : w.grownBy w' v.ownBlock) (he : e ≠ 3) : Kp B w w' := by
  refine ⟨hg.size, fun k hk hc => hg.block k hk (fun e' => ?_)⟩
  obtain ⟨h1, h2⟩ := h.lt k e'.symm
  rcases hc with hc | ⟨cur, fr, hc⟩
  · omega
  · rcases h.2 with ⟨hv, _⟩ | ⟨g, cap, cur', hv, _, hg', _⟩
    · rw [hv] at e'; cases e'
    · rw [hv] at e'
      simp only [Value.ownBlock, Option.some.injEq] at e'
      subst e'
      rw [hg'] at hc
      simp only [Option.some.injEq, Obj.cells.injEq] at hc
      exact he hc.2.1

/-- Ints that stay. -/
def IntsK (B : Nat) (w : World) (a : Option Addr) (xs : List Int) : Prop :=
  ∀ i, i < xs.length → ∃ ad : Addr, a = some ad ∧ ad.block < w.heap.size ∧ (ad.block < B ∨ ∃ cur fr, w.heap[ad.block]? = some (.cells cur 3 fr)) ∧ w.cell? (ad.add i) = some (.int .i64 (xs.getD i 0))
theorem IntsK.ints {a : Option Addr} {xs : List Int} (h : IntsK B w a xs) : IntsIn w a xs := fun i hi => by
  obtain ⟨ad, h1, h2, _, h4⟩ := h i hi
  exact ⟨ad, h1, h2, h4⟩
theorem IntsK.kp {a : Option Addr} {xs : List Int} (h : IntsK B w a xs) (hk : Kp B w w') : IntsK B w' a xs := fun i hi => by
  obtain ⟨ad, h1, h2, h3, h4⟩ := h i hi
  have e := hk.block _ h2 h3
  refine ⟨ad, h1, Nat.lt_of_lt_of_le h2 hk.size, by rw [e]; exact h3, ?_⟩
  rw [World.cell?_of_block (w := w) (by rw [addr_block]; exact e)]; exact h4
theorem IntsK.more {a : Option Addr} {xs : List Int} (h : IntsK 0 w a xs) : IntsK B w a xs := fun i hi => by
  obtain ⟨ad, h1, h2, h3, h4⟩ := h i hi
  exact ⟨ad, h1, h2, h3.imp (fun h => by omega) id, h4⟩
theorem IntsK.of {a : Option Addr} {xs : List Int} (h : IntsIn w a xs) (hb : Below w.heap.size w w') : IntsK w.heap.size w' a xs := fun i hi => by
  obtain ⟨ad, h1, h2, h3⟩ := h.below hb i hi
  obtain ⟨ad', h4, h5, _⟩ := h i hi
  obtain rfl := Option.some.inj (h1.symm.trans h4)
  exact ⟨ad, h1, h2, Or.inl h5, h3⟩

/-- Clauses, as cells. -/
def ClsK (B : Nat) (w : World) (cs : List Value) (l : List (List Int)) : Prop :=
  cs.length = l.length ∧ ∀ i, i < l.length → ∃ (a : Option Addr) (cap : Nat), cs[i]? = some (.slice a (l.getD i []).length cap) ∧ (l.getD i []).length ≤ cap ∧ cap ≤ 9223372036854775807 ∧ IntsK B w a (l.getD i [])
theorem ClsK.kp {cs : List Value} {l : List (List Int)} (h : ClsK B w cs l) (hk : Kp B w w') : ClsK B w' cs l := ⟨h.1, fun i hi => by
  obtain ⟨a, cap, h1, h2, h3, h4⟩ := h.2 i hi
  exact ⟨a, cap, h1, h2, h3, h4.kp hk⟩⟩
theorem ClsK.nil : ClsK B w [] [] := ⟨rfl, fun i hi => by simp at hi⟩
theorem ClsK.snoc {cs : List Value} {l : List (List Int)} (h : ClsK B w cs l) {a : Option Addr} {cap : Nat} {c : List Int} (h1 : c.length ≤ cap) (h2 : cap ≤ 9223372036854775807) (h3 : IntsK B w a c) : ClsK B w (cs ++ [.slice a c.length cap]) (l ++ [c]) := by
  refine ⟨by simp [h.1], fun i hi => ?_⟩
  by_cases hl : i < l.length
  · have e : (l ++ [c]).getD i [] = l.getD i [] := by simp [List.getD_eq_getElem?_getD, List.getElem?_append_left hl]
    rw [e, List.getElem?_append_left (by rw [h.1]; exact hl)]
    exact h.2 i hl
  · have hi' : i = l.length := by simp at hi; omega
    subst hi'
    have e : (l ++ [c]).getD l.length [] = c := by simp [List.getD_eq_getElem?_getD]
    rw [e, List.getElem?_append_right (by rw [h.1]; exact Nat.le_refl _), h.1]
    exact ⟨a, cap, by simp, h1, h2, h3⟩
theorem ClsK.cls {cs : List Value} {l : List (List Int)} {a : Option Addr} {cap : Nat} (h : ClsK B w cs l) (hr : w.ownsRow B 175 1 (.slice a l.length cap) l.length cs) : ClsIn w a l := by
  intro i hi
  obtain ⟨a', cap', h1, h2, h3, h4⟩ := h.2 i hi
  rcases hr.2 with ⟨e, e0⟩ | ⟨g, cap2, cur, e, hB, hg, -⟩
  · omega
  · injection e with e1 e2 e3
    subst e1 e3
    refine ⟨_, a', cap', rfl, (Array.getElem?_eq_some_iff.1 hg).1, ?_, h2, h3, h4.ints⟩
    have := hr.cellAt i (by omega)
    rw [add_plain, Nat.zero_add, this, h1]
theorem ClsK.one {cs : List Value} {l : List (List Int)} (h : ClsK B w cs l) : ∀ u ∈ cs, u.oneCell' = true := fun u hu => by
  obtain ⟨i, hi, rfl⟩ := List.getElem_of_mem hu
  obtain ⟨a, cap, h1, _⟩ := h.2 i (by rw [← h.1]; exact hi)
  rw [List.getElem?_eq_getElem hi] at h1
  rw [Option.some.inj h1]
  rfl
end

theorem ownBlock_ne' {w : World} {B : Nat} {e T : TypeId} {size : Nat} {v : Value} {n : Nat} {xs : List Value} {b : Nat} {cs : Array Value} (hown : w.ownsRow B e size v n xs) (hb : Blk w b T cs) (hTe : T ≠ e) : v.ownBlock ≠ some b := by
  rcases hown.2 with ⟨rfl, _⟩ | ⟨g, cap, cur, rfl, _, hg, _⟩
  · simp [Value.ownBlock]
  · intro h
    simp only [Value.ownBlock, Option.some.injEq] at h
    subst h
    rw [show w.heap[g]? = _ from hb] at hg
    simp only [Option.some.injEq, Obj.cells.injEq] at hg
    exact hTe hg.2.1
theorem ownBlocks_ne {w : World} {B : Nat} {e e2 : TypeId} {size size2 : Nat} {v v2 : Value} {n n2 : Nat} {xs xs2 : List Value} (h1 : w.ownsRow B e size v n xs) (h2 : w.ownsRow B e2 size2 v2 n2 xs2) (hne : e ≠ e2) : v.ownBlock = none ∨ v.ownBlock ≠ v2.ownBlock := by
  rcases h1.2 with ⟨rfl, _⟩ | ⟨g, cap, cur, rfl, _, hg, _⟩
  · exact Or.inl rfl
  · refine Or.inr fun e' => ?_
    exact ownBlock_ne' h2 (b := g) (cs := cur) (T := e) hg hne e'.symm
theorem row_new' {B : Nat} {w w' : World} {t : TypeId} {size : Nat} {v : Value} {n : Nat} {cs : List Value} (h : w.ownsRow B t size v n cs) (hb : Below w.heap.size w w') : w'.ownsRow B t size v n cs := by
  obtain ⟨h1, h2⟩ := h
  refine ⟨h1, ?_⟩
  rcases h2 with h2 | ⟨g, cap, cur, hv, hg, hh, r⟩
  · exact Or.inl h2
  · exact Or.inr ⟨g, cap, cur, hv, hg, by rw [hb.block g (Array.getElem?_eq_some_iff.1 hh).1]; exact hh, r⟩

end Go.Proofs.YtljeigdkbnichaaGreatDoor
