/- What the walk of ArenaOnce leans on: plain lists, and a map from handles to nodes. -/
import Derived.Test.YtiimdhmbbmkbfaaGreatDoorArNewA
namespace Go.Proofs.YtiimdhmbbmkbfaaGreatDoor
open Go.RowKit Go.Maps

/-- All nodes are there, each with its handle. -/
structure Full (ns : List Nd) : Prop where
  ranked : Ranked ns
  occ : ∀ j, j < ns.length → (nd ns j).v < 24
  inj : ∀ i j, i < ns.length → j < ns.length → nd ns i = nd ns j → i = j

def pairsOf (ns : List Nd) : List (Nd × Int) := (List.range ns.length).map fun i => (nd ns i, 2 + (i : Int))
theorem pairsOf_length (ns : List Nd) : (pairsOf ns).length = ns.length := by simp [pairsOf]
theorem mem_pairsOf {ns : List Nd} {p : Nd × Int} : p ∈ pairsOf ns ↔ ∃ i : Nat, i < ns.length ∧ p = (nd ns i, 2 + (i : Int)) := by
  unfold pairsOf
  simp only [List.mem_map, List.mem_range]
  constructor
  · rintro ⟨i, h, rfl⟩; exact ⟨i, h, rfl⟩
  · rintro ⟨i, h, rfl⟩; exact ⟨i, h, rfl⟩
theorem nd_snoc (ns : List Nd) (n : Nd) (i : Nat) : nd (ns ++ [n]) i = if i < ns.length then nd ns i else if i = ns.length then n else ⟨0, 0, 0⟩ := by
  unfold nd
  simp only [List.getD_eq_getElem?_getD]
  by_cases h : i < ns.length
  · rw [if_pos h, List.getElem?_append_left h]
  · rw [if_neg h, List.getElem?_append_right (by omega)]
    by_cases e : i = ns.length
    · subst e; simp
    · rw [if_neg e, List.getElem?_eq_none (by simp; omega)]; rfl
theorem pairsOf_snoc (ns : List Nd) (n : Nd) : pairsOf (ns ++ [n]) = pairsOf ns ++ [(n, 2 + (ns.length : Int))] := by
  unfold pairsOf
  rw [List.length_append, List.length_singleton, List.range_succ, List.map_append]
  congr 1
  · apply List.map_congr_left
    intro i hi
    rw [List.mem_range] at hi
    rw [nd_snoc, if_pos hi]
  · simp [nd_snoc]
theorem set_snoc (ns : List Nd) (n m : Nd) : (ns ++ [m]).set ns.length n = ns ++ [n] := by simp

theorem full_nil : Full [] := ⟨⟨fun j h => by simp at h, fun j h => by simp at h, fun j h => by simp at h, fun j h => by simp at h⟩, fun j h => by simp at h, fun i j h => by simp at h⟩

theorem hasB_cases {ns : List Nd} {h : Int} (hh : hasB ns h = true) : h = 0 ∨ h = 1 ∨ topOf ns h < 24 := by
  unfold hasB at hh; simpa [or_assoc] using hh
theorem topOf_snoc {ns : List Nd} {h : Int} (n : Nd) (hh : hasB ns h = true) : topOf (ns ++ [n]) h = topOf ns h := by
  rcases hasB_cases hh with rfl | rfl | ht
  · simp [topOf]
  · simp [topOf]
  · obtain ⟨b1, b2, b3⟩ := topOf_node (by omega : topOf ns h ≠ 24)
    unfold topOf
    rw [if_pos (by rw [List.length_append]; simp; omega), if_pos (by omega), nd_snoc, if_pos b2]
theorem hasB_snoc {ns : List Nd} {h : Int} (n : Nd) (hh : hasB ns h = true) : hasB (ns ++ [n]) h = true := by
  unfold hasB; rw [topOf_snoc n hh]; exact hh
theorem topOf_last (ns : List Nd) (n : Nd) : topOf (ns ++ [n]) (2 + (ns.length : Int)) = n.v := by
  rw [topOf_at (by simp), nd_snoc, if_neg (by omega), if_pos rfl]

theorem Full.snoc {ns : List Nd} {n : Nd} (hF : Full ns) (hn : n.Ok) (hf : Fit ns n) (hnin : n ∉ (pairsOf ns).map Prod.fst) : Full (ns ++ [n]) := by
  have key : ∀ j, j < (ns ++ [n]).length → nd (ns ++ [n]) j = n ∧ j = ns.length ∨ j < ns.length ∧ nd (ns ++ [n]) j = nd ns j := fun j hj => by
    rw [List.length_append, List.length_singleton] at hj
    by_cases h : j < ns.length
    · exact .inr ⟨h, by rw [nd_snoc, if_pos h]⟩
    · exact .inl ⟨by rw [nd_snoc, if_neg h, if_pos (by omega)], by omega⟩
  have hne : ∀ i, i < ns.length → nd ns i ≠ n := fun i hi e => hnin (List.mem_map.2 ⟨(nd ns i, 2 + (i : Int)), mem_pairsOf.2 ⟨i, hi, rfl⟩, e⟩)
  refine ⟨⟨?_, ?_, ?_, ?_⟩, ?_, ?_⟩
  · intro j hj
    rcases key j hj with ⟨e, -⟩ | ⟨h, e⟩
    · rw [e]; have := hf.v0; have := hf.v1; omega
    · rw [e]; exact hF.ranked.v0 j h
  · intro j hj hv
    rcases key j hj with ⟨e, -⟩ | ⟨h, e⟩
    · rw [e]; exact ⟨by rw [topOf_snoc n hf.l]; exact hf.tl, hasB_snoc n hf.l⟩
    · rw [e] at hv ⊢
      have := hF.ranked.l j h hv
      exact ⟨by rw [topOf_snoc n this.2]; exact this.1, hasB_snoc n this.2⟩
  · intro j hj hv
    rcases key j hj with ⟨e, -⟩ | ⟨h, e⟩
    · rw [e]; exact ⟨by rw [topOf_snoc n hf.h]; exact hf.th, hasB_snoc n hf.h⟩
    · rw [e] at hv ⊢
      have := hF.ranked.h j h hv
      exact ⟨by rw [topOf_snoc n this.2]; exact this.1, hasB_snoc n this.2⟩
  · intro j hj
    rcases key j hj with ⟨e, -⟩ | ⟨h, e⟩
    · rw [e]; exact hn
    · rw [e]; exact hF.ranked.ok j h
  · intro j hj
    rcases key j hj with ⟨e, -⟩ | ⟨h, e⟩
    · rw [e]; exact hf.v1
    · rw [e]; exact hF.occ j h
  · intro i j hi hj he
    rcases key i hi with ⟨e1, q1⟩ | ⟨h1, e1⟩ <;> rcases key j hj with ⟨e2, q2⟩ | ⟨h2, e2⟩
    · omega
    · rw [e1, e2] at he; exact absurd he.symm (hne j h2)
    · rw [e1, e2] at he; exact absurd he (hne i h1)
    · rw [e1, e2] at he; exact hF.inj i j h1 h2 he

theorem Full.book {ns : List Nd} (hF : Full ns) : Book ns (pairsOf ns) := by
  refine ⟨fun p hp => ?_, fun i hi _ => mem_pairsOf.2 ⟨i, hi, rfl⟩, ?_, fun i hi h => absurd (hF.occ i hi) h⟩
  · obtain ⟨i, hi, rfl⟩ := mem_pairsOf.1 hp
    exact ⟨i, hi, hF.occ i hi, rfl⟩
  · unfold pairsOf
    rw [List.map_map]
    have : ∀ (l : List Nat), l.Nodup → (∀ i ∈ l, i < ns.length) → (l.map (Prod.fst ∘ fun i => (nd ns i, 2 + (i : Int)))).Nodup := by
      intro l
      induction l with
      | nil => intro _ _; exact List.nodup_nil
      | cons a l ih =>
        intro hn hl
        rw [List.nodup_cons] at hn
        rw [List.map_cons, List.nodup_cons]
        refine ⟨fun hm => ?_, ih hn.2 (fun i hi => hl i (List.mem_cons_of_mem _ hi))⟩
        obtain ⟨j, hj, he⟩ := List.mem_map.1 hm
        have := hF.inj j a (hl j (List.mem_cons_of_mem _ hj)) (hl a (List.mem_cons_self ..)) he
        exact hn.1 (this ▸ hj)
    exact this _ List.nodup_range (fun i hi => List.mem_range.1 hi)

theorem LTo_pairs (ns : List Nd) (M : List Bool) : LTo (pairsOf ns) M ns.length = ((List.range ns.length).filter fun i => mk M i).map fun i => (nd ns i, 2 + (i : Int)) := by
  unfold LTo pairsOf
  rw [List.filter_map]
  congr 1
  apply List.filter_congr
  intro i hi
  rw [List.mem_range] at hi
  simp only [Function.comp]
  rw [show (2 + (i : Int) - 2).toNat = i by omega, decide_eq_false (by omega), Bool.false_or]
theorem LTo_pairs_length (ns : List Nd) (M : List Bool) : (LTo (pairsOf ns) M ns.length).length = (reachTo M ns.length).length := by
  rw [LTo_pairs]; simp [reachTo]

/-- What is left behind a sweep of all but what a handle leads to. -/
theorem swept_ranked {ns : List Nd} (hF : Full ns) (top : Int) : Ranked (swept ns (marksOf ns [top])) := by
  have hc := markF_closed hF.ranked 24 top (List.replicate ns.length false) (by simp) (by have := (topOf_le hF.ranked top).1; omega)
  have hM : marksOf ns [top] = markF 24 ns top (List.replicate ns.length false) := rfl
  rw [hM]
  generalize markF 24 ns top (List.replicate ns.length false) = M at *
  have key : ∀ j, j < ns.length → mk M j = true ∧ nd (swept ns M) j = nd ns j ∨ mk M j = false ∧ nd (swept ns M) j = ⟨24, 0, 0⟩ := fun j hj => by
    rw [swept_at ns M j hj]
    by_cases h : mk M j = true
    · exact .inl ⟨h, by rw [if_pos h]⟩
    · exact .inr ⟨by simpa using h, by rw [if_neg h]⟩
  have child : ∀ h, MarkedOr ns M h → hasB ns h = true → topOf (swept ns M) h = topOf ns h ∧ hasB (swept ns M) h = true := fun h hm hh => by
    have e : topOf (swept ns M) h = topOf ns h := by
      rw [swept_top]
      rcases hm with hm | hm
      · rw [hm]; split <;> rfl
      · rw [if_pos hm]
    exact ⟨e, by unfold hasB at *; rw [e]; exact hh⟩
  refine ⟨?_, ?_, ?_, ?_⟩ <;> intro j hj <;> rw [swept_length] at hj
  · rcases key j hj with ⟨-, e⟩ | ⟨-, e⟩
    · rw [e]; exact hF.ranked.v0 j hj
    · rw [e]; simp
  · intro hv
    rcases key j hj with ⟨hm, e⟩ | ⟨-, e⟩
    · rw [e]
      have := hF.ranked.l j hj (hF.occ j hj)
      have hcl := child _ (hc.2 j hj hm (mk_none _ _)).1 this.2
      rw [hcl.1]; exact ⟨this.1, hcl.2⟩
    · rw [e] at hv; simp at hv
  · intro hv
    rcases key j hj with ⟨hm, e⟩ | ⟨-, e⟩
    · rw [e]
      have := hF.ranked.h j hj (hF.occ j hj)
      have hcl := child _ (hc.2 j hj hm (mk_none _ _)).2 this.2
      rw [hcl.1]; exact ⟨this.1, hcl.2⟩
    · rw [e] at hv; simp at hv
  · rcases key j hj with ⟨-, e⟩ | ⟨-, e⟩
    · rw [e]; exact hF.ranked.ok j hj
    · rw [e]; exact ⟨⟨by decide, by decide⟩, ⟨by decide, by decide⟩, ⟨by decide, by decide⟩⟩

theorem marks_swept {ns : List Nd} (top : Int) : marksOf (swept ns (marksOf ns [top])) [top] = marksOf ns [top] := by
  have hM : marksOf ns [top] = markF 24 ns top (List.replicate ns.length false) := rfl
  have h2 : ∀ X, marksOf (swept ns X) [top] = markF 24 (swept ns X) top (List.replicate ns.length false) := fun X => by
    show markF 24 (swept ns X) top (List.replicate (swept ns X).length false) = _
    rw [swept_length]
  rw [h2, markF_swept 24 top _ (by simp) (fun i hi => by rw [hM]; exact hi), hM]

theorem swept_has {ns : List Nd} (hF : Full ns) (M : List Bool) {i : Nat} (hi : i < ns.length) : hasB (swept ns M) (2 + (i : Int)) = mk M i := by
  unfold hasB
  rw [swept_top, show (2 + (i : Int) - 2).toNat = i by omega, topOf_at hi, decide_eq_false (by omega), decide_eq_false (by omega), Bool.false_or, Bool.false_or]
  have := hF.occ i hi
  by_cases h : mk M i = true
  · rw [if_pos h, h]; simpa using this
  · rw [if_neg h]; simp at h; simp [h]
end Go.Proofs.YtiimdhmbbmkbfaaGreatDoor
