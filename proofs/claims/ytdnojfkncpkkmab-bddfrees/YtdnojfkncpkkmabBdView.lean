/- What is made hangs on the nodes that are there alone: not on free places behind them. -/
import Derived.Test.YtdnojfkncpkkmabBdFun
import Derived.Test.YtdnojfkncpkkmabBdRec
namespace Go.Proofs.Ytdnojfkncpkkmab
open Go.RowKit Go.Maps

def view (ns : List Nd) (i : Nat) : Nd := if i < ns.length then nd ns i else ⟨24, 0, 0⟩
/-- The same nodes at the same places. -/
def Vw (a b : List Nd) : Prop := ∀ i, view a i = view b i

theorem Vw.refl (a : List Nd) : Vw a a := fun _ => rfl
theorem Vw.symm {a b : List Nd} (h : Vw a b) : Vw b a := fun i => (h i).symm

theorem top_view (ns : List Nd) (h : Int) : topOf ns h = if 2 ≤ h then (view ns (pl h)).v else 24 := by
  unfold topOf view pl
  by_cases h2 : 2 ≤ h
  · rw [if_pos h2]
    by_cases hl : h < 2 + (ns.length : Int)
    · rw [if_pos ⟨h2, hl⟩, if_pos (by omega)]
    · rw [if_neg (by omega), if_neg (by omega)]
  · rw [if_neg (by omega), if_neg h2]

section
variable {a b : List Nd}
theorem Vw.top (h : Vw a b) (x : Int) : topOf a x = topOf b x := by rw [top_view, top_view, h]
theorem view_at {ns : List Nd} {i : Nat} (h : i < ns.length) : view ns i = nd ns i := if_pos h
theorem view_free {ns : List Nd} {i : Nat} (h : ¬ i < ns.length) : view ns i = ⟨24, 0, 0⟩ := if_neg h
theorem Vw.node (h : Vw a b) {x : Int} (ht : topOf a x ≠ 24) : nd a (pl x) = nd b (pl x) := by
  have hb : topOf b x ≠ 24 := by rw [← h.top]; exact ht
  have := h (pl x)
  rwa [view_at (node_at ht).2.1, view_at (node_at hb).2.1] at this
theorem Vw.lo (h : Vw a b) (x v : Int) (hv : v < 24) : loS a x v = loS b x v := by
  unfold loS; rw [h.top]
  by_cases e : topOf b x = v
  · rw [if_pos e, if_pos e, h.node (by rw [h.top]; omega)]
  · rw [if_neg e, if_neg e]
theorem Vw.hi (h : Vw a b) (x v : Int) (hv : v < 24) : hiS a x v = hiS b x v := by
  unfold hiS; rw [h.top]
  by_cases e : topOf b x = v
  · rw [if_pos e, if_pos e, h.node (by rw [h.top]; omega)]
  · rw [if_neg e, if_neg e]
theorem Vw.min (h : Vw a b) (k : Nd) : minT a k = minT b k := by unfold minT; rw [h.top, h.top, h.top]

theorem lfree_view (ns : List Nd) : ¬ (view ns (lfree ns)).v < 24 ∧ ∀ j, j < lfree ns → (view ns j).v < 24 := by
  refine ⟨?_, fun j hj => ?_⟩
  · by_cases h : lfree ns < ns.length
    · rw [view_at h]; exact lfree_free h
    · rw [view_free h]; simp
  · rw [view_at (Nat.lt_of_lt_of_le hj (lfree_le ns))]; exact lfree_taken hj
theorem Vw.lfree (h : Vw a b) : Go.Proofs.Ytdnojfkncpkkmab.lfree a = Go.Proofs.Ytdnojfkncpkkmab.lfree b := by
  obtain ⟨a1, a2⟩ := lfree_view a
  obtain ⟨b1, b2⟩ := lfree_view b
  rcases Nat.lt_trichotomy (Go.Proofs.Ytdnojfkncpkkmab.lfree a) (Go.Proofs.Ytdnojfkncpkkmab.lfree b) with c | c | c
  · exact absurd (b2 _ c) (by rw [← h]; exact a1)
  · exact c
  · exact absurd (a2 _ c) (by rw [h]; exact b1)
theorem idx_le {ns : List Nd} {n : Nd} {i : Nat} (hi : i < ns.length) (e : nd ns i = n) : idx ns n ≤ i := by
  by_cases c : idx ns n ≤ i
  · exact c
  · have : i < idx ns n := by omega
    have := List.not_of_lt_findIdx this
    rw [nd_at ns i hi] at e
    simp [e] at this
theorem idx_view {ns : List Nd} {n : Nd} (hn : n.v < 24) {i : Nat} (e : view ns i = n) : i < ns.length ∧ nd ns i = n := by
  by_cases c : i < ns.length
  · exact ⟨c, by rw [← view_at c]; exact e⟩
  · rw [view_free c] at e; rw [← e] at hn; simp at hn
theorem Vw.idx (h : Vw a b) {n : Nd} (hn : n.v < 24) (c : Go.Proofs.Ytdnojfkncpkkmab.idx a n < a.length) : Go.Proofs.Ytdnojfkncpkkmab.idx b n = Go.Proofs.Ytdnojfkncpkkmab.idx a n ∧ Go.Proofs.Ytdnojfkncpkkmab.idx b n < b.length := by
  have e1 : view a (Go.Proofs.Ytdnojfkncpkkmab.idx a n) = n := by rw [view_at c]; exact idx_at c
  obtain ⟨l1, e2⟩ := idx_view hn (by rw [← h]; exact e1)
  have le1 := idx_le l1 e2
  have lb : Go.Proofs.Ytdnojfkncpkkmab.idx b n < b.length := by omega
  have e3 : view b (Go.Proofs.Ytdnojfkncpkkmab.idx b n) = n := by rw [view_at lb]; exact idx_at lb
  obtain ⟨l2, e4⟩ := idx_view hn (by rw [h]; exact e3)
  have le2 := idx_le l2 e4
  exact ⟨by omega, lb⟩

theorem view_put {ns : List Nd} {k : Nat} (hk : k ≤ ns.length) (n : Nd) (i : Nat) : view (putN ns k n) i = if i = k then n else view ns i := by
  by_cases c : i < (putN ns k n).length
  · have c' := (putN_lt hk i).1 c
    rw [view_at c, putN_at hk i c']
    by_cases e : i = k
    · rw [if_pos e, if_pos e]
    · rw [if_neg e, if_neg e, view_at (by omega)]
  · have c' : ¬ (i < ns.length ∨ i = k) := fun h => c ((putN_lt hk i).2 h)
    rw [view_free c, if_neg (by omega), view_free (by omega)]

theorem Vw.make (h : Vw a b) {n : Nd} (hn : n.v < 24) : (makeF a n).2 = (makeF b n).2 ∧ Vw (makeF a n).1 (makeF b n).1 := by
  unfold makeF
  by_cases c : Go.Proofs.Ytdnojfkncpkkmab.idx a n < a.length
  · obtain ⟨e, c2⟩ := h.idx hn c
    rw [if_pos c, if_pos c2, e]; exact ⟨rfl, h⟩
  · have c2 : ¬ Go.Proofs.Ytdnojfkncpkkmab.idx b n < b.length := fun c2 => c (h.symm.idx hn c2).2
    rw [if_neg c, if_neg c2]
    refine ⟨by show (2 + (Go.Proofs.Ytdnojfkncpkkmab.lfree a : Int)) = 2 + (Go.Proofs.Ytdnojfkncpkkmab.lfree b : Int); rw [h.lfree], fun i => ?_⟩
    show view (putN a (Go.Proofs.Ytdnojfkncpkkmab.lfree a) n) i = view (putN b (Go.Proofs.Ytdnojfkncpkkmab.lfree b) n) i
    rw [view_put (lfree_le a), view_put (lfree_le b), h.lfree, h i]
theorem Vw.nodeF (h : Vw a b) {v : Int} (hv : v < 24) (l r : Int) : (Go.Proofs.Ytdnojfkncpkkmab.nodeF a v l r).2 = (Go.Proofs.Ytdnojfkncpkkmab.nodeF b v l r).2 ∧ Vw (Go.Proofs.Ytdnojfkncpkkmab.nodeF a v l r).1 (Go.Proofs.Ytdnojfkncpkkmab.nodeF b v l r).1 := by
  unfold Go.Proofs.Ytdnojfkncpkkmab.nodeF
  by_cases e : l = r
  · rw [if_pos e, if_pos e]; exact ⟨rfl, h⟩
  · rw [if_neg e, if_neg e]; exact h.make hv

end

/-- The same, all three. -/
def Same3 (x y : List Nd × List (Nd × Int) × Int) : Prop := Vw x.1 y.1 ∧ x.2.1 = y.2.1 ∧ x.2.2 = y.2.2

theorem makes_view {vars : Nat} (op : Bool) : ∀ (d : Nat) (a b : List Nd) (m : List (Nd × Int)) (k : Nd), Vw a b → Good vars a → MemoOk op a m → Has3 a k → 24 ≤ minT a k + d → a.length + 2 ^ rk vars a k ≤ 900000 → Same3 (makesF d op a m k) (makesF d op b m k)
  | 0, a, b, m, k, h, _, _, _, _, _ => ⟨h, rfl, rfl⟩
  | d + 1, a, b, m, k, h, hg, hmo, h3, hd, hl => by
    cases e : knownF op k with
    | some x => unfold makesF; rw [e]; exact ⟨h, rfl, rfl⟩
    | none =>
      cases e2 : look m k with
      | some x => unfold makesF; rw [e]; simp only; rw [e2]; exact ⟨h, rfl, rfl⟩
      | none =>
        rw [makesF_rec e e2, makesF_rec e e2]
        have hr := hg.ranked
        have hv := known_none hr h3 e
        have hvv := minT_vars hg hv
        obtain ⟨l3, lt⟩ := lo_has3 hr h3 hv
        obtain ⟨g3, gt⟩ := hi_has3 hr h3 hv
        have hpow : 2 ^ rk vars a k = 2 ^ (rk vars a k - 1) + 2 ^ (rk vars a k - 1) := by
          have : 1 ≤ rk vars a k := by unfold rk; omega
          obtain ⟨q, hq⟩ : ∃ q, rk vars a k = q + 1 := ⟨rk vars a k - 1, by omega⟩
          rw [hq, Nat.add_sub_cancel, Nat.pow_succ]; omega
        have pge := Nat.one_le_two_pow (n := rk vars a k - 1)
        have p1 : 2 ^ rk vars a (loK a k (minT a k)) ≤ 2 ^ (rk vars a k - 1) := Nat.pow_le_pow_right (by omega) (by unfold rk; omega)
        have ok1 := makes_ok (op := op) d a m (loK a k (minT a k)) hg hmo l3 (by omega) (by omega)
        have g3' := g3.ext ok1.ext
        have gm := minT_ext g3 ok1.ext
        have p2 : 2 ^ rk vars (makesF d op a m (loK a k (minT a k))).1 (hiK a k (minT a k)) ≤ 2 ^ (rk vars a k - 1) := Nat.pow_le_pow_right (by omega) (by unfold rk; rw [gm]; omega)
        have len1 := ok1.len
        have hm := h.min k
        have e3 : loK b k (minT b k) = loK a k (minT a k) := by unfold loK; rw [← hm, h.lo _ _ hv, h.lo _ _ hv, h.lo _ _ hv]
        have e4 : hiK b k (minT b k) = hiK a k (minT a k) := by unfold hiK; rw [← hm, h.hi _ _ hv, h.hi _ _ hv, h.hi _ _ hv]
        obtain ⟨i1, i2, i3⟩ := makes_view op d a b m (loK a k (minT a k)) h hg hmo l3 (by omega) (by omega)
        rw [e3, e4, ← hm]
        have j := fun b' (hb' : Vw (makesF d op a m (loK a k (minT a k))).1 b') => makes_view op d (makesF d op a m (loK a k (minT a k))).1 b' (makesF d op a m (loK a k (minT a k))).2.1 (hiK a k (minT a k)) hb' ok1.good ok1.memo g3' (by rw [gm]; omega) (by omega)
        clear ok1 g3' gm p2 len1
        generalize makesF d op a m (loK a k (minT a k)) = ra at *
        generalize makesF d op b m (loK a k (minT a k)) = rb at *
        obtain ⟨j1, j2, j3⟩ := j rb.1 i1
        rw [← i2, ← i3]
        clear j
        generalize makesF d op ra.1 ra.2.1 (hiK a k (minT a k)) = sa at *
        generalize makesF d op rb.1 ra.2.1 (hiK a k (minT a k)) = sb at *
        rw [← j2, ← j3]
        obtain ⟨n1, n2⟩ := j1.nodeF hv ra.2.2 sa.2.2
        exact ⟨n2, by show memoPut _ _ _ = memoPut _ _ _; rw [n1], n1⟩
end Go.Proofs.Ytdnojfkncpkkmab
