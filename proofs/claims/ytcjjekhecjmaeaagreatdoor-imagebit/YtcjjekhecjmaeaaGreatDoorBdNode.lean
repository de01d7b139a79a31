/- A node that is made: where it lies, and what is there then. -/
import Derived.Test.YtcjjekhecjmaeaaGreatDoorBdSem
namespace Go.Proofs.YtcjjekhecjmaeaaGreatDoor
open Go.RowKit Go.Maps
def lfree (ns : List Nd) : Nat := ns.findIdx fun n => !decide (n.v < 24)
def idx (ns : List Nd) (n : Nd) : Nat := ns.findIdx fun m => decide (m = n)
def cnt (ns : List Nd) : Nat := (ns.filter fun n => decide (n.v < 24)).length
section
variable {ns : List Nd}
theorem lfree_le (ns : List Nd) : lfree ns <= ns.length := List.findIdx_le_length
theorem lfree_taken {j : Nat} (h : j < lfree ns) : (nd ns j).v < 24 := by
 have hl : j < ns.length := Nat.lt_of_lt_of_le h (lfree_le ns)
 have := List.not_of_lt_findIdx h
 rw [nd_at ns j hl]; simpa using this
theorem lfree_free (h : lfree ns < ns.length) : ¬ (nd ns (lfree ns)).v < 24 := by
 have := List.findIdx_getElem (w := h)
 rw [nd_at ns _ h]; unfold lfree; simpa using this
theorem lfree_is {k : Nat} (hk : k <= ns.length) (ht : ∀ j, j < k -> (nd ns j).v < 24) (hf : k < ns.length -> ¬ (nd ns k).v < 24) : k = lfree ns := by
 rcases Nat.lt_trichotomy k (lfree ns) with h | h | h
 ·exact absurd (lfree_taken h) (hf (Nat.lt_of_lt_of_le h (lfree_le ns)))
 ·exact h
 ·exact absurd (ht _ h) (lfree_free (by omega))
theorem idx_at {n : Nd} (h : idx ns n < ns.length) : nd ns (idx ns n) = n := by
 have := List.findIdx_getElem (w := h)
 rw [nd_at ns _ h]; unfold idx; simpa using this
theorem idx_none {n : Nd} (h : ¬ idx ns n < ns.length) {j : Nat} (hj : j < ns.length) : nd ns j ≠ n := by
 have : j < idx ns n := by omega
 have := List.not_of_lt_findIdx this
 rw [nd_at ns j hj]; simpa using this
def makeF (ns : List Nd) (n : Nd) : List Nd × Int := if idx ns n < ns.length then (ns, 2 + (idx ns n : Int)) else (putN ns (lfree ns) n, 2 + (lfree ns : Int))
def nodeF (ns : List Nd) (v l h : Int) : List Nd × Int := if l = h then (ns, l) else makeF ns ⟨v, l, h⟩
theorem cnt_put_le (ns : List Nd) (n : Nd) : cnt (putN ns (lfree ns) n) <= cnt ns + 1 := by
 unfold cnt putN
 have key : ∀ (l : List Nd) (k : Nat), ((l.set k n).filter fun n => decide (n.v < 24)).length <= (l.filter fun n => decide (n.v < 24)).length + 1 := by
  intro l
  induction l with
  | nil => intro k; simp
  | cons a l ih =>
   intro k
   cases k with
   | zero =>
    simp only [List.set_cons_zero, List.filter_cons]
    split <;> split <;> simp <;> omega
   | succ k =>
    simp only [List.set_cons_succ, List.filter_cons]
    have := ih k
    split
    ·simp only [List.length_cons]; omega
    ·exact this
 refine Nat.le_trans (key _ _) ?_
 split
 ·rw [List.filter_append]; simp
 ·exact Nat.le_refl _
theorem good_put {vars : Nat} (hg : Good vars ns) {n : Nd} (hn : n.Ok) (hf : Fit ns n) (hne : n.l ≠ n.h) (hv : n.v < (vars : Int)) (hnin : ∀ j, j < ns.length -> nd ns j ≠ n) : Good vars (putN ns (lfree ns) n) := by
 have hk := lfree_le ns
 have hfr : lfree ns < ns.length -> ¬ (nd ns (lfree ns)).v < 24 := lfree_free
 have key : ∀ j, j < (putN ns (lfree ns) n).length -> nd (putN ns (lfree ns) n) j = n /\ j = lfree ns \/ j < ns.length /\ j ≠ lfree ns /\ nd (putN ns (lfree ns) n) j = nd ns j := fun j hj => by
  have hj' := (putN_lt hk j).1 hj
  by_cases e : j = lfree ns
  ·exact .inl ⟨by rw [putN_at hk j hj', if_pos e], e⟩
  ·exact .inr ⟨by omega, e, by rw [putN_at hk j hj', if_neg e]⟩
 refine ⟨putN_ranked hg.ranked hk hfr hn hf, fun i j hi hj hvi e => ?_, fun i hi hvi => ?_, fun i hi hvi => ?_, fun i hi hvi => ?_⟩
 ·rcases key i hi with ⟨e1, x1⟩ | ⟨l1, n1, e1⟩ <;> rcases key j hj with ⟨e2, x2⟩ | ⟨l2, n2, e2⟩
  ·omega
  ·rw [e1, e2] at e; exact absurd e.symm (hnin j l2)
  ·rw [e1, e2] at e; exact absurd e (hnin i l1)
  ·rw [e1] at hvi; rw [e1, e2] at e; exact hg.once i j l1 l2 hvi e
 ·rcases key i hi with ⟨e1, -⟩ | ⟨l1, -, e1⟩ <;> rw [e1] at hvi ⊢
  ·exact hne
  ·exact hg.red i l1 hvi
 ·rcases key i hi with ⟨e1, -⟩ | ⟨l1, -, e1⟩ <;> rw [e1] at hvi ⊢
  ·exact hv
  ·exact hg.vars i l1 hvi
 ·rcases key i hi with ⟨e1, -⟩ | ⟨l1, -, e1⟩ <;> rw [e1] at hvi ⊢
  ·exact absurd hf.v1 hvi
  ·exact hg.free i l1 hvi
structure Made (vars : Nat) (ns : List Nd) (v l h : Int) (r : List Nd × Int) : Prop where
 good : Good vars r.1
 ext : Ext ns r.1
 has : hasB r.1 r.2 = true
 sem : ∀ f, sem r.1 r.2 f = if f v.toNat then sem ns h f else sem ns l f
 top : v <= topOf r.1 r.2
 cnt : cnt r.1 <= cnt ns + 1
 len : r.1.length <= ns.length + 1
 i64 : I64 r.2
theorem has_i64 {h : Int} (hh : hasB ns h = true) (hl : ns.length <= 1000000) : I64 h := by
 rcases hasB_cases hh with rfl | rfl | ht
 ·exact ⟨by omega, by omega⟩
 ·exact ⟨by omega, by omega⟩
 ·obtain ⟨h1, h2, -, h4⟩ := node_at (ns := ns) (h := h) (by omega)
  exact ⟨by omega, by omega⟩
theorem nodeF_ok {vars : Nat} (hg : Good vars ns) {v l h : Int} (hl : ns.length <= 900000) (h0 : 0 <= v) (h24 : v < 24) (hv : v < (vars : Int)) (hl1 : hasB ns l = true) (hh1 : hasB ns h = true) (tl : v < topOf ns l) (th : v < topOf ns h) : Made vars ns v l h (nodeF ns v l h) := by
 unfold nodeF
 by_cases e : l = h
 ·rw [if_pos e]
  subst e
  exact ⟨hg, Ext.refl _, hl1, fun f => by split <;> rfl, by show v <= topOf ns l; omega, Nat.le_succ _, Nat.le_succ _, has_i64 hl1 (by omega)⟩
 ·rw [if_neg e]
  unfold makeF
  have hi1 := has_i64 hl1 (by omega)
  have hi2 := has_i64 hh1 (by omega)
  by_cases c : idx ns ⟨v, l, h⟩ < ns.length
  ·rw [if_pos c]
   have ha := idx_at c
   have ht : topOf ns (2 + (idx ns ⟨v, l, h⟩ : Int)) = v := by rw [topOf_at c, ha]
   have hp : pl (2 + (idx ns ⟨v, l, h⟩ : Int)) = idx ns ⟨v, l, h⟩ := by unfold pl; omega
   refine ⟨hg, Ext.refl _, ?_, fun f => ?_, ?_, Nat.le_succ _, Nat.le_succ _, ⟨by show _ <= (2 + _ : Int); omega, by show (2 + _ : Int) <= _; omega⟩⟩
   ·show hasB ns _ = true; unfold hasB; rw [ht]; simp [h24]
   ·show Go.Proofs.YtcjjekhecjmaeaaGreatDoor.sem ns _ f = _
    rw [sem_node hg.ranked (by rw [ht]; omega), ht, hp, ha]
   ·show v <= topOf ns (2 + (idx ns ⟨v, l, h⟩ : Int)); omega
  ·rw [if_neg c]
   have hnin : ∀ j, j < ns.length -> nd ns j ≠ ⟨v, l, h⟩ := fun j hj => idx_none c hj
   have hf : Fit ns ⟨v, l, h⟩ := ⟨h0, h24, hl1, hh1, tl, th⟩
   have hgp := good_put hg ⟨⟨by show _ <= v; omega, by show v <= _; omega⟩, hi1, hi2⟩ hf e hv hnin
   have hk := lfree_le ns
   have hx : Ext ns (putN ns (lfree ns) ⟨v, l, h⟩) := ext_put hk lfree_free hg.ranked
   have ht : topOf (putN ns (lfree ns) ⟨v, l, h⟩) (2 + (lfree ns : Int)) = v := putN_self hk
   have hp : pl (2 + (lfree ns : Int)) = lfree ns := by unfold pl; omega
   refine ⟨hgp, hx, ?_, fun f => ?_, ?_, cnt_put_le _ _, (putN_length hk).1, ⟨by show _ <= (2 + _ : Int); omega, by show (2 + _ : Int) <= _; omega⟩⟩
   ·show hasB _ _ = true; unfold hasB; rw [ht]; simp [h24]
   ·show Go.Proofs.YtcjjekhecjmaeaaGreatDoor.sem _ _ f = _
    rw [sem_node hgp.ranked (by rw [ht]; omega), ht, hp, putN_at hk _ (.inr rfl), if_pos rfl, sem_ext hg.ranked hx hl1, sem_ext hg.ranked hx hh1]
   ·show v <= topOf (putN ns (lfree ns) ⟨v, l, h⟩) (2 + (lfree ns : Int)); omega
end
end Go.Proofs.YtcjjekhecjmaeaaGreatDoor
