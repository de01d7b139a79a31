/- A node that is put where none lay. -/
import Derived.Test.YtiimdhmbbmkbfaaGreatDoorArPairs
namespace Go.Proofs.YtiimdhmbbmkbfaaGreatDoor
open Go.RowKit Go.Maps

/-- The places behind a node was put at place k. -/
def putN (ns : List Nd) (k : Nat) (n : Nd) : List Nd := (if k = ns.length then ns ++ [⟨24, 0, 0⟩] else ns).set k n

section
variable {ns : List Nd} {k : Nat} {n : Nd}

theorem putN_lt (hk : k ≤ ns.length) (i : Nat) : i < (putN ns k n).length ↔ i < ns.length ∨ i = k := by
  unfold putN
  rw [List.length_set]; split
  · rw [List.length_append, List.length_singleton]; omega
  · omega
theorem putN_length (_hk : k ≤ ns.length) : (putN ns k n).length ≤ ns.length + 1 ∧ ns.length ≤ (putN ns k n).length := by
  unfold putN
  rw [List.length_set]; split
  · rw [List.length_append, List.length_singleton]; omega
  · omega
theorem putN_at (hk : k ≤ ns.length) (i : Nat) (hi : i < ns.length ∨ i = k) : nd (putN ns k n) i = if i = k then n else nd ns i := by
  unfold putN
  rw [nd_set _ _ _ _ (by split <;> (try simp) <;> omega)]
  by_cases e : i = k
  · rw [if_pos e, if_pos e]
  · rw [if_neg e, if_neg e]
    split
    · rw [nd_snoc, if_pos (by omega)]
    · rfl
/-- A handle that was there leads where it led. -/
theorem putN_node (hk : k ≤ ns.length) (hfree : k < ns.length → ¬ (nd ns k).v < 24) {h : Int} (ht : topOf ns h < 24) : nd (putN ns k n) (h - 2).toNat = nd ns (h - 2).toNat ∧ topOf (putN ns k n) h = topOf ns h := by
  obtain ⟨b1, b2, b3⟩ := topOf_node (by omega : topOf ns h ≠ 24)
  have hne : (h - 2).toNat ≠ k := fun e => by
    rw [b3, e] at ht; exact hfree (e ▸ b2) ht
  have h1 : nd (putN ns k n) (h - 2).toNat = nd ns (h - 2).toNat := by rw [putN_at hk _ (.inl b2), if_neg hne]
  refine ⟨h1, ?_⟩
  have hl := (putN_lt (n := n) hk (h - 2).toNat).2 (.inl b2)
  unfold topOf
  rw [if_pos (by omega), if_pos (by omega), h1]
theorem putN_top (hk : k ≤ ns.length) (hfree : k < ns.length → ¬ (nd ns k).v < 24) {h : Int} (hh : hasB ns h = true) : topOf (putN ns k n) h = topOf ns h := by
  rcases hasB_cases hh with rfl | rfl | ht
  · simp [topOf]
  · simp [topOf]
  · exact (putN_node hk hfree ht).2
theorem putN_has (hk : k ≤ ns.length) (hfree : k < ns.length → ¬ (nd ns k).v < 24) {h : Int} (hh : hasB ns h = true) : hasB (putN ns k n) h = true := by
  unfold hasB; rw [putN_top hk hfree hh]; exact hh
theorem putN_self (hk : k ≤ ns.length) : topOf (putN ns k n) (2 + (k : Int)) = n.v := by
  rw [topOf_at ((putN_lt hk k).2 (.inr rfl)), putN_at hk k (.inr rfl), if_pos rfl]

theorem putN_ranked (hr : Ranked ns) (hk : k ≤ ns.length) (hfree : k < ns.length → ¬ (nd ns k).v < 24) (hn : n.Ok) (hf : Fit ns n) : Ranked (putN ns k n) := by
  have key : ∀ j, j < (putN ns k n).length → nd (putN ns k n) j = n ∧ j = k ∨ j < ns.length ∧ nd (putN ns k n) j = nd ns j := fun j hj => by
    have hj' := (putN_lt hk j).1 hj
    by_cases e : j = k
    · exact .inl ⟨by rw [putN_at hk j hj', if_pos e], e⟩
    · exact .inr ⟨by omega, by rw [putN_at hk j hj', if_neg e]⟩
  refine ⟨?_, ?_, ?_, ?_⟩ <;> intro j hj <;> rcases key j hj with ⟨e, -⟩ | ⟨hl, e⟩ <;> rw [e]
  · have := hf.v0; have := hf.v1; omega
  · exact hr.v0 j hl
  · intro _; rw [putN_top hk hfree hf.l]; exact ⟨hf.tl, putN_has hk hfree hf.l⟩
  · intro hv; have := hr.l j hl hv; rw [putN_top hk hfree this.2]; exact ⟨this.1, putN_has hk hfree this.2⟩
  · intro _; rw [putN_top hk hfree hf.h]; exact ⟨hf.th, putN_has hk hfree hf.h⟩
  · intro hv; have := hr.h j hl hv; rw [putN_top hk hfree this.2]; exact ⟨this.1, putN_has hk hfree this.2⟩
  · exact hn
  · exact hr.ok j hl

theorem putN_book {L : List (Nd × Int)} (hB : Book ns L) (hk : k ≤ ns.length) (hfree : k < ns.length → ¬ (nd ns k).v < 24) (hv : n.v < 24) (hnin : n ∉ L.map Prod.fst) : Book (putN ns k n) (L ++ [(n, 2 + (k : Int))]) := by
  refine ⟨fun p hp => ?_, fun i hi hvi => ?_, ?_, fun i hi hvi => ?_⟩
  · rcases List.mem_append.1 hp with hp | hp
    · obtain ⟨i, hi, hvi, rfl⟩ := hB.mem p hp
      have hne : i ≠ k := fun e => by subst e; exact hfree hi hvi
      refine ⟨i, (putN_lt hk i).2 (.inl hi), ?_, ?_⟩ <;> rw [putN_at hk i (.inl hi), if_neg hne]
      exact hvi
    · rw [List.mem_singleton] at hp; subst hp
      refine ⟨k, (putN_lt hk k).2 (.inr rfl), ?_, ?_⟩ <;> rw [putN_at hk k (.inr rfl), if_pos rfl]
      exact hv
  · have hi' := (putN_lt hk i).1 hi
    rw [putN_at hk i hi'] at hvi ⊢
    by_cases e : i = k
    · rw [if_pos e]; subst e; simp
    · rw [if_neg e] at hvi ⊢
      exact List.mem_append.2 (.inl (hB.all i (by omega) hvi))
  · rw [List.map_append, List.nodup_append]
    refine ⟨hB.nodup, by simp, fun x hx y hy => ?_⟩
    simp at hy; subst hy
    exact fun e => hnin (e ▸ hx)
  · have hi' := (putN_lt hk i).1 hi
    rw [putN_at hk i hi'] at hvi ⊢
    by_cases e : i = k
    · rw [if_pos e] at hvi; exact absurd hv hvi
    · rw [if_neg e] at hvi ⊢
      exact hB.free i (by omega) hvi
end

theorem fst_unique {α β : Type} {L : List (α × β)} (h : (L.map Prod.fst).Nodup) {p q : α × β} (hp : p ∈ L) (hq : q ∈ L) (e : p.1 = q.1) : p = q := by
  obtain ⟨i, hi, rfl⟩ := List.getElem_of_mem hp
  obtain ⟨j, hj, rfl⟩ := List.getElem_of_mem hq
  have := (List.getElem_inj (h₀ := by simpa using hi) (h₁ := by simpa using hj) h).1 (by simpa using e)
  subst this; rfl
end Go.Proofs.YtiimdhmbbmkbfaaGreatDoor
