/- A node that is made: where it lies, and what is there then. -/
import Derived.Test.YtcjjekhecjmaeaaGreatDoorArTaken
namespace Go.Proofs.YtcjjekhecjmaeaaGreatDoor
section
open Go.RowKit Go.Maps
def pl (h : Int) : Nat := (h - 2).toNat
def semF : Nat -> List Nd -> Int -> (Nat -> Bool) -> Bool
 | 0, _, h, _ => decide (h = 1)
 | d + 1, ns, h, f =>
  if topOf ns h = 24 then decide (h = 1)
  else if f (topOf ns h).toNat then semF d ns (nd ns (pl h)).h f else semF d ns (nd ns (pl h)).l f
def sem (ns : List Nd) (h : Int) (f : Nat -> Bool) : Bool := semF 24 ns h f
structure Good (vars : Nat) (ns : List Nd) : Prop where
 ranked : Ranked ns
 once : ∀ i j, i < ns.length -> j < ns.length -> (nd ns i).v < 24 -> nd ns i = nd ns j -> i = j
 red : ∀ i, i < ns.length -> (nd ns i).v < 24 -> (nd ns i).l ≠ (nd ns i).h
 vars : ∀ i, i < ns.length -> (nd ns i).v < 24 -> (nd ns i).v < (vars : Int)
 free : ∀ i, i < ns.length -> ¬ (nd ns i).v < 24 -> nd ns i = ⟨24, 0, 0⟩
section
variable {ns : List Nd}
theorem node_at {h : Int} (ht : topOf ns h ≠ 24) : 2 <= h /\ pl h < ns.length /\ topOf ns h = (nd ns (pl h)).v /\ h = 2 + (pl h : Int) := by
 obtain ⟨h1, h2, h3⟩ := topOf_node ht
 exact ⟨h1, h2, h3, by unfold pl; omega⟩
theorem top_lt (hr : Ranked ns) {h : Int} (ht : topOf ns h ≠ 24) : topOf ns h < 24 := by
 have := (topOf_le hr h).2; omega
theorem kids (hr : Ranked ns) {h : Int} (ht : topOf ns h ≠ 24) : topOf ns h < topOf ns (nd ns (pl h)).l /\ hasB ns (nd ns (pl h)).l = true /\ topOf ns h < topOf ns (nd ns (pl h)).h /\ hasB ns (nd ns (pl h)).h = true := by
 obtain ⟨h1, h2, h3, h4⟩ := node_at ht
 have hv := top_lt hr ht
 rw [h3] at hv ⊢
 exact ⟨(hr.l _ h2 hv).1, (hr.l _ h2 hv).2, (hr.h _ h2 hv).1, (hr.h _ h2 hv).2⟩
theorem end_of {h : Int} (hh : hasB ns h = true) (ht : topOf ns h = 24) : h = 0 \/ h = 1 := by
 rcases hasB_cases hh with h1 | h1 | h1
 ·exact .inl h1
 ·exact .inr h1
 ·omega
theorem semF_any (hr : Ranked ns) (f : Nat -> Bool) : ∀ (d e : Nat) (h : Int), 24 <= topOf ns h + d -> 24 <= topOf ns h + e -> semF d ns h f = semF e ns h f
 | 0, 0, h, _, _ => rfl
 | 0, e + 1, h, hd, _ => by
  have := (topOf_le hr h).2
  unfold semF; rw [if_pos (by omega)]
 | d + 1, 0, h, _, he => by
  have := (topOf_le hr h).2
  unfold semF; rw [if_pos (by omega)]
 | d + 1, e + 1, h, hd, he => by
  unfold semF
  by_cases ht : topOf ns h = 24
  ·rw [if_pos ht, if_pos ht]
  ·rw [if_neg ht, if_neg ht]
   obtain ⟨k1, -, k2, -⟩ := kids hr ht
   rw [semF_any hr f d e _ (by omega) (by omega), semF_any hr f d e (nd ns (pl h)).l (by omega) (by omega)]
theorem sem_end {h : Int} (ht : topOf ns h = 24) (f : Nat -> Bool) : sem ns h f = decide (h = 1) := by
 unfold sem semF; rw [if_pos ht]
theorem sem_false (f : Nat -> Bool) : sem ns 0 f = false := by rw [sem_end (by simp [topOf])]; rfl
theorem sem_true (f : Nat -> Bool) : sem ns 1 f = true := by rw [sem_end (by simp [topOf])]; rfl
theorem sem_node (hr : Ranked ns) {h : Int} (ht : topOf ns h ≠ 24) (f : Nat -> Bool) : sem ns h f = if f (topOf ns h).toNat then sem ns (nd ns (pl h)).h f else sem ns (nd ns (pl h)).l f := by
 obtain ⟨k1, -, k2, -⟩ := kids hr ht
 have h0 := (topOf_le hr h).1
 show semF 24 ns h f = _
 unfold semF
 rw [if_neg ht, semF_any hr f 23 24 _ (by omega) (by omega), semF_any hr f 23 24 (nd ns (pl h)).l (by omega) (by omega)]
 rfl
def loS (ns : List Nd) (h v : Int) : Int := if topOf ns h = v then (nd ns (pl h)).l else h
def hiS (ns : List Nd) (h v : Int) : Int := if topOf ns h = v then (nd ns (pl h)).h else h
theorem loS_has (hr : Ranked ns) {h v : Int} (hv : v < 24) (hh : hasB ns h = true) : hasB ns (loS ns h v) = true /\ (v <= topOf ns h -> v < topOf ns (loS ns h v)) /\ topOf ns h <= topOf ns (loS ns h v) := by
 unfold loS
 by_cases e : topOf ns h = v
 ·rw [if_pos e]
  have := kids hr (h := h) (by omega)
  exact ⟨this.2.1, fun _ => by omega, by omega⟩
 ·rw [if_neg e]; exact ⟨hh, fun h => by omega, Int.le_refl _⟩
theorem hiS_has (hr : Ranked ns) {h v : Int} (hv : v < 24) (hh : hasB ns h = true) : hasB ns (hiS ns h v) = true /\ (v <= topOf ns h -> v < topOf ns (hiS ns h v)) /\ topOf ns h <= topOf ns (hiS ns h v) := by
 unfold hiS
 by_cases e : topOf ns h = v
 ·rw [if_pos e]
  have := kids hr (h := h) (by omega)
  exact ⟨this.2.2.2, fun _ => by omega, by omega⟩
 ·rw [if_neg e]; exact ⟨hh, fun h => by omega, Int.le_refl _⟩
theorem sem_sides (hr : Ranked ns) {h v : Int} (hv : v < 24) (f : Nat -> Bool) : sem ns h f = if f v.toNat then sem ns (hiS ns h v) f else sem ns (loS ns h v) f := by
 unfold loS hiS
 by_cases e : topOf ns h = v
 ·rw [if_pos e, if_pos e, sem_node hr (by omega), e]
 ·rw [if_neg e, if_neg e]; split <;> rfl
theorem semF_agree (hr : Ranked ns) {f g : Nat -> Bool} : ∀ (d : Nat) (h : Int), (∀ i : Nat, topOf ns h <= (i : Int) -> f i = g i) -> semF d ns h f = semF d ns h g
 | 0, _, _ => rfl
 | d + 1, h, hfg => by
  unfold semF
  by_cases ht : topOf ns h = 24
  ·rw [if_pos ht, if_pos ht]
  ·rw [if_neg ht, if_neg ht]
   obtain ⟨k1, -, k2, -⟩ := kids hr ht
   have h0 := (topOf_le hr h).1
   rw [hfg (topOf ns h).toNat (by omega), semF_agree hr d _ (fun i hi => hfg i (by omega)), semF_agree hr d (nd ns (pl h)).l (fun i hi => hfg i (by omega))]
theorem sem_agree (hr : Ranked ns) {f g : Nat -> Bool} {h : Int} (hfg : ∀ i : Nat, topOf ns h <= (i : Int) -> f i = g i) : sem ns h f = sem ns h g := semF_agree hr 24 h hfg
def turn (f : Nat -> Bool) (v : Nat) (b : Bool) : Nat -> Bool := fun i => if i = v then b else f i
theorem turn_ne (f : Nat -> Bool) {v i : Nat} (b : Bool) (h : i ≠ v) : turn f v b i = f i := if_neg h
theorem turn_eq (f : Nat -> Bool) (v : Nat) (b : Bool) : turn f v b v = b := if_pos rfl
theorem sides_same (hr : Ranked ns) {a b v : Int} (hv0 : 0 <= v) (hv : v < 24) (ha : hasB ns a = true) (hb : hasB ns b = true) (hta : v <= topOf ns a) (htb : v <= topOf ns b) (h : ∀ f, sem ns a f = sem ns b f) :
  (∀ f, sem ns (loS ns a v) f = sem ns (loS ns b v) f) /\ (∀ f, sem ns (hiS ns a v) f = sem ns (hiS ns b v) f) := by
 have la := (loS_has hr hv ha).2.1 hta
 have lb := (loS_has hr hv hb).2.1 htb
 have ga := (hiS_has hr hv ha).2.1 hta
 have gb := (hiS_has hr hv hb).2.1 htb
 refine ⟨fun f => ?_, fun f => ?_⟩
 ·have := h (turn f v.toNat false)
  rw [sem_sides hr hv, sem_sides (h := b) hr hv] at this
  rw [turn_eq, if_neg (by simp), if_neg (by simp), sem_agree hr (g := f) (fun i hi => turn_ne _ _ (by omega)), sem_agree (h := loS ns b v) hr (g := f) (fun i hi => turn_ne _ _ (by omega))] at this
  exact this
 ·have := h (turn f v.toNat true)
  rw [sem_sides hr hv, sem_sides (h := b) hr hv] at this
  rw [turn_eq, if_pos rfl, if_pos rfl, sem_agree hr (g := f) (fun i hi => turn_ne _ _ (by omega)), sem_agree (h := hiS ns b v) hr (g := f) (fun i hi => turn_ne _ _ (by omega))] at this
  exact this
theorem nd_eq {a b : Nd} (h0 : a.v = b.v) (h1 : a.l = b.l) (h2 : a.h = b.h) : a = b := by cases a; cases b; cases h0; cases h1; cases h2; rfl
theorem canon {vars : Nat} (hg : Good vars ns) : ∀ (d : Nat) (a b : Int), 24 <= topOf ns a + d -> 24 <= topOf ns b + d -> hasB ns a = true -> hasB ns b = true -> (∀ f, sem ns a f = sem ns b f) -> a = b
 | 0, a, b, da, db, ha, hb, h => by
  have ta := (topOf_le hg.ranked a).2
  have tb := (topOf_le hg.ranked b).2
  have := h (fun _ => false)
  rw [sem_end (by omega), sem_end (by omega)] at this
  rcases end_of ha (by omega) with rfl | rfl <;> rcases end_of hb (by omega) with rfl | rfl <;> simp at this ⊢
 | d + 1, a, b, da, db, ha, hb, h => by
  have ta := topOf_le hg.ranked a
  have tb := topOf_le hg.ranked b
  by_cases e : topOf ns a = 24 /\ topOf ns b = 24
  ·exact canon hg 0 a b (by omega) (by omega) ha hb h
  ·have hr := hg.ranked
   obtain ⟨v, hv, hva, hvb, hve⟩ : ∃ v, v < 24 /\ v <= topOf ns a /\ v <= topOf ns b /\ (v = topOf ns a \/ v = topOf ns b) := by
    rcases Int.lt_or_le (topOf ns a) (topOf ns b) with h1 | h1
    ·exact ⟨topOf ns a, by omega, by omega, by omega, .inl rfl⟩
    ·exact ⟨topOf ns b, by omega, by omega, by omega, .inr rfl⟩
   have hv0 : 0 <= v := by omega
   obtain ⟨sl, sh⟩ := sides_same hr hv0 hv ha hb hva hvb h
   have la := loS_has hr hv ha
   have lb := loS_has hr hv hb
   have ga := hiS_has hr hv ha
   have gb := hiS_has hr hv hb
   have e1 := canon hg d _ _ (by have := la.2.1 hva; omega) (by have := lb.2.1 hvb; omega) la.1 lb.1 sl
   have e2 := canon hg d _ _ (by have := ga.2.1 hva; omega) (by have := gb.2.1 hvb; omega) ga.1 gb.1 sh
   by_cases ca : topOf ns a = v
   ·obtain ⟨na1, na2, na3, na4⟩ := node_at (ns := ns) (h := a) (by omega)
    by_cases cb : topOf ns b = v
    ·obtain ⟨nb1, nb2, nb3, nb4⟩ := node_at (ns := ns) (h := b) (by omega)
     unfold loS at e1; unfold hiS at e2
     rw [if_pos ca, if_pos cb] at e1 e2
     have := hg.once (pl a) (pl b) na2 nb2 (by omega) (by
      have e0 : (nd ns (pl a)).v = (nd ns (pl b)).v := by omega
      exact nd_eq e0 e1 e2)
     rw [na4, nb4, this]
    ·unfold loS at e1; unfold hiS at e2
     rw [if_pos ca, if_neg cb] at e1 e2
     exact absurd (e1.trans e2.symm) (hg.red _ na2 (by omega))
   ·have cb : topOf ns b = v := by omega
    obtain ⟨nb1, nb2, nb3, nb4⟩ := node_at (ns := ns) (h := b) (by omega)
    unfold loS at e1; unfold hiS at e2
    rw [if_neg ca, if_pos cb] at e1 e2
    exact absurd (e1.symm.trans e2) (hg.red _ nb2 (by omega))
theorem same_handle {vars : Nat} (hg : Good vars ns) {a b : Int} (ha : hasB ns a = true) (hb : hasB ns b = true) (h : ∀ f, sem ns a f = sem ns b f) : a = b :=
 canon hg 24 a b (by have := (topOf_le hg.ranked a).1; omega) (by have := (topOf_le hg.ranked b).1; omega) ha hb h
structure Ext (ns ns' : List Nd) : Prop where
 has : ∀ h, hasB ns h = true -> hasB ns' h = true
 top : ∀ h, hasB ns h = true -> topOf ns' h = topOf ns h
 node : ∀ h, hasB ns h = true -> topOf ns h ≠ 24 -> nd ns' (pl h) = nd ns (pl h)
theorem Ext.refl (ns : List Nd) : Ext ns ns := ⟨fun _ h => h, fun _ _ => rfl, fun _ _ _ => rfl⟩
theorem Ext.trans {a b c : List Nd} (h : Ext a b) (k : Ext b c) : Ext a c :=
 ⟨fun x hx => k.has x (h.has x hx), fun x hx => (k.top x (h.has x hx)).trans (h.top x hx), fun x hx ht => (k.node x (h.has x hx) (by rw [h.top x hx]; exact ht)).trans (h.node x hx ht)⟩
theorem semF_ext {ns' : List Nd} (hr : Ranked ns) (he : Ext ns ns') (f : Nat -> Bool) : ∀ (d : Nat) (h : Int), hasB ns h = true -> semF d ns' h f = semF d ns h f
 | 0, _, _ => rfl
 | d + 1, h, hh => by
  unfold semF
  rw [he.top h hh]
  by_cases ht : topOf ns h = 24
  ·rw [if_pos ht, if_pos ht]
  ·obtain ⟨-, k1, -, k2⟩ := kids hr ht
   rw [if_neg ht, if_neg ht, he.node h hh ht, semF_ext hr he f d _ k1, semF_ext hr he f d _ k2]
theorem sem_ext {ns' : List Nd} (hr : Ranked ns) (he : Ext ns ns') {h : Int} (hh : hasB ns h = true) (f : Nat -> Bool) : sem ns' h f = sem ns h f := semF_ext hr he f 24 h hh
theorem ext_put {k : Nat} {n : Nd} (hk : k <= ns.length) (hfree : k < ns.length -> ¬ (nd ns k).v < 24) (hr : Ranked ns) : Ext ns (putN ns k n) :=
 ⟨fun _ hh => putN_has hk hfree hh, fun _ hh => putN_top hk hfree hh, fun _ _ ht => (putN_node hk hfree (top_lt hr ht)).1⟩
end
end
section
open Go.RowKit Go.Maps
def lfree (ns : List Nd) : Nat := ns.findIdx fun n => !decide (n.v < 24)
def idx (ns : List Nd) (n : Nd) : Nat := ns.findIdx fun m => decide (m = n)
def cnt (ns : List Nd) : Nat := (ns.filter fun n => decide (n.v < 24)).length
section
variable {ns : List Nd}
theorem lfree_le (ns : List Nd) : lfree ns <= ns.length := List.findIdx_le_length
theorem lfree_taken {j : Nat} (h : j < lfree ns) : (nd ns j).v < 24 := by
 have hl : j < ns.length := Nat.lt_of_lt_of_le h (lfree_le ns)
 have := List.not_of_lt_findIdx h
 rw [nd_at ns j hl]; simpa using this
theorem lfree_free (h : lfree ns < ns.length) : ¬ (nd ns (lfree ns)).v < 24 := by
 have := List.findIdx_getElem (w := h)
 rw [nd_at ns _ h]; unfold lfree; simpa using this
theorem lfree_is {k : Nat} (hk : k <= ns.length) (ht : ∀ j, j < k -> (nd ns j).v < 24) (hf : k < ns.length -> ¬ (nd ns k).v < 24) : k = lfree ns := by
 rcases Nat.lt_trichotomy k (lfree ns) with h | h | h
 ·exact absurd (lfree_taken h) (hf (Nat.lt_of_lt_of_le h (lfree_le ns)))
 ·exact h
 ·exact absurd (ht _ h) (lfree_free (by omega))
theorem idx_at {n : Nd} (h : idx ns n < ns.length) : nd ns (idx ns n) = n := by
 have := List.findIdx_getElem (w := h)
 rw [nd_at ns _ h]; unfold idx; simpa using this
theorem idx_none {n : Nd} (h : ¬ idx ns n < ns.length) {j : Nat} (hj : j < ns.length) : nd ns j ≠ n := by
 have : j < idx ns n := by omega
 have := List.not_of_lt_findIdx this
 rw [nd_at ns j hj]; simpa using this
def makeF (ns : List Nd) (n : Nd) : List Nd × Int := if idx ns n < ns.length then (ns, 2 + (idx ns n : Int)) else (putN ns (lfree ns) n, 2 + (lfree ns : Int))
def nodeF (ns : List Nd) (v l h : Int) : List Nd × Int := if l = h then (ns, l) else makeF ns ⟨v, l, h⟩
theorem cnt_put_le (ns : List Nd) (n : Nd) : cnt (putN ns (lfree ns) n) <= cnt ns + 1 := by
 unfold cnt putN
 have key : ∀ (l : List Nd) (k : Nat), ((l.set k n).filter fun n => decide (n.v < 24)).length <= (l.filter fun n => decide (n.v < 24)).length + 1 := by
  intro l
  induction l with
  | nil => intro k; simp
  | cons a l ih =>
   intro k
   cases k with
   | zero =>
    simp only [List.set_cons_zero, List.filter_cons]
    split <;> split <;> simp <;> omega
   | succ k =>
    simp only [List.set_cons_succ, List.filter_cons]
    have := ih k
    split
    ·simp only [List.length_cons]; omega
    ·exact this
 refine Nat.le_trans (key _ _) ?_
 split
 ·rw [List.filter_append]; simp
 ·exact Nat.le_refl _
theorem good_put {vars : Nat} (hg : Good vars ns) {n : Nd} (hn : n.Ok) (hf : Fit ns n) (hne : n.l ≠ n.h) (hv : n.v < (vars : Int)) (hnin : ∀ j, j < ns.length -> nd ns j ≠ n) : Good vars (putN ns (lfree ns) n) := by
 have hk := lfree_le ns
 have hfr : lfree ns < ns.length -> ¬ (nd ns (lfree ns)).v < 24 := lfree_free
 have key : ∀ j, j < (putN ns (lfree ns) n).length -> nd (putN ns (lfree ns) n) j = n /\ j = lfree ns \/ j < ns.length /\ j ≠ lfree ns /\ nd (putN ns (lfree ns) n) j = nd ns j := fun j hj => by
  have hj' := (putN_lt hk j).1 hj
  by_cases e : j = lfree ns
  ·exact .inl ⟨by rw [putN_at hk j hj', if_pos e], e⟩
  ·exact .inr ⟨by omega, e, by rw [putN_at hk j hj', if_neg e]⟩
 refine ⟨putN_ranked hg.ranked hk hfr hn hf, fun i j hi hj hvi e => ?_, fun i hi hvi => ?_, fun i hi hvi => ?_, fun i hi hvi => ?_⟩
 ·rcases key i hi with ⟨e1, x1⟩ | ⟨l1, n1, e1⟩ <;> rcases key j hj with ⟨e2, x2⟩ | ⟨l2, n2, e2⟩
  ·omega
  ·rw [e1, e2] at e; exact absurd e.symm (hnin j l2)
  ·rw [e1, e2] at e; exact absurd e (hnin i l1)
  ·rw [e1] at hvi; rw [e1, e2] at e; exact hg.once i j l1 l2 hvi e
 ·rcases key i hi with ⟨e1, -⟩ | ⟨l1, -, e1⟩ <;> rw [e1] at hvi ⊢
  ·exact hne
  ·exact hg.red i l1 hvi
 ·rcases key i hi with ⟨e1, -⟩ | ⟨l1, -, e1⟩ <;> rw [e1] at hvi ⊢
  ·exact hv
  ·exact hg.vars i l1 hvi
 ·rcases key i hi with ⟨e1, -⟩ | ⟨l1, -, e1⟩ <;> rw [e1] at hvi ⊢
  ·exact absurd hf.v1 hvi
  ·exact hg.free i l1 hvi
structure Made (vars : Nat) (ns : List Nd) (v l h : Int) (r : List Nd × Int) : Prop where
 good : Good vars r.1
 ext : Ext ns r.1
 has : hasB r.1 r.2 = true
 sem : ∀ f, sem r.1 r.2 f = if f v.toNat then sem ns h f else sem ns l f
 top : v <= topOf r.1 r.2
 cnt : cnt r.1 <= cnt ns + 1
 len : r.1.length <= ns.length + 1
 i64 : I64 r.2
theorem has_i64 {h : Int} (hh : hasB ns h = true) (hl : ns.length <= 1000000) : I64 h := by
 rcases hasB_cases hh with rfl | rfl | ht
 ·exact ⟨by omega, by omega⟩
 ·exact ⟨by omega, by omega⟩
 ·obtain ⟨h1, h2, -, h4⟩ := node_at (ns := ns) (h := h) (by omega)
  exact ⟨by omega, by omega⟩
theorem nodeF_ok {vars : Nat} (hg : Good vars ns) {v l h : Int} (hl : ns.length <= 900000) (h0 : 0 <= v) (h24 : v < 24) (hv : v < (vars : Int)) (hl1 : hasB ns l = true) (hh1 : hasB ns h = true) (tl : v < topOf ns l) (th : v < topOf ns h) : Made vars ns v l h (nodeF ns v l h) := by
 unfold nodeF
 by_cases e : l = h
 ·rw [if_pos e]
  subst e
  exact ⟨hg, Ext.refl _, hl1, fun f => by split <;> rfl, by show v <= topOf ns l; omega, Nat.le_succ _, Nat.le_succ _, has_i64 hl1 (by omega)⟩
 ·rw [if_neg e]
  unfold makeF
  have hi1 := has_i64 hl1 (by omega)
  have hi2 := has_i64 hh1 (by omega)
  by_cases c : idx ns ⟨v, l, h⟩ < ns.length
  ·rw [if_pos c]
   have ha := idx_at c
   have ht : topOf ns (2 + (idx ns ⟨v, l, h⟩ : Int)) = v := by rw [topOf_at c, ha]
   have hp : pl (2 + (idx ns ⟨v, l, h⟩ : Int)) = idx ns ⟨v, l, h⟩ := by unfold pl; omega
   refine ⟨hg, Ext.refl _, ?_, fun f => ?_, ?_, Nat.le_succ _, Nat.le_succ _, ⟨by show _ <= (2 + _ : Int); omega, by show (2 + _ : Int) <= _; omega⟩⟩
   ·show hasB ns _ = true; unfold hasB; rw [ht]; simp [h24]
   ·show Go.Proofs.YtcjjekhecjmaeaaGreatDoor.sem ns _ f = _
    rw [sem_node hg.ranked (by rw [ht]; omega), ht, hp, ha]
   ·show v <= topOf ns (2 + (idx ns ⟨v, l, h⟩ : Int)); omega
  ·rw [if_neg c]
   have hnin : ∀ j, j < ns.length -> nd ns j ≠ ⟨v, l, h⟩ := fun j hj => idx_none c hj
   have hf : Fit ns ⟨v, l, h⟩ := ⟨h0, h24, hl1, hh1, tl, th⟩
   have hgp := good_put hg ⟨⟨by show _ <= v; omega, by show v <= _; omega⟩, hi1, hi2⟩ hf e hv hnin
   have hk := lfree_le ns
   have hx : Ext ns (putN ns (lfree ns) ⟨v, l, h⟩) := ext_put hk lfree_free hg.ranked
   have ht : topOf (putN ns (lfree ns) ⟨v, l, h⟩) (2 + (lfree ns : Int)) = v := putN_self hk
   have hp : pl (2 + (lfree ns : Int)) = lfree ns := by unfold pl; omega
   refine ⟨hgp, hx, ?_, fun f => ?_, ?_, cnt_put_le _ _, (putN_length hk).1, ⟨by show _ <= (2 + _ : Int); omega, by show (2 + _ : Int) <= _; omega⟩⟩
   ·show hasB _ _ = true; unfold hasB; rw [ht]; simp [h24]
   ·show Go.Proofs.YtcjjekhecjmaeaaGreatDoor.sem _ _ f = _
    rw [sem_node hgp.ranked (by rw [ht]; omega), ht, hp, putN_at hk _ (.inr rfl), if_pos rfl, sem_ext hg.ranked hx hl1, sem_ext hg.ranked hx hh1]
   ·show v <= topOf (putN ns (lfree ns) ⟨v, l, h⟩) (2 + (lfree ns : Int)); omega
end
end
end Go.Proofs.YtcjjekhecjmaeaaGreatDoor
