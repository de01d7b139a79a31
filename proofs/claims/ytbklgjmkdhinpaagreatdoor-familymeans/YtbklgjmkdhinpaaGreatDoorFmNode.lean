/- A node that is made: where it lies, and what is there then; how many there can be. -/
import Derived.Test.YtbklgjmkdhinpaaGreatDoorFmSem
namespace Go.Proofs.YtbklgjmkdhinpaaGreatDoor.Fm
open Go.RowKit Go.Maps Go.Proofs.YtbklgjmkdhinpaaGreatDoor.Bd
def lowB (vars : Nat) (n : Nd) : Bool := decide (n.v + 2 < (vars : Int))
def cntT (vars : Nat) (ns : List Nd) : Nat := (ns.filter (lowB vars)).length
theorem inj_len {α β : Type} [DecidableEq β] : ∀ (l : List α) (S : List β) (f : α -> β), l.Nodup -> (∀ a ∈ l, f a ∈ S) -> (∀ a ∈ l, ∀ b ∈ l, f a = f b -> a = b) -> l.length <= S.length
 | [], _, _, _, _, _ => Nat.zero_le _
 | a :: l, S, f, hn, hS, hi => by
  rw [List.nodup_cons] at hn
  have ha := hS a (List.mem_cons_self ..)
  have := inj_len l (S.erase (f a)) f hn.2 (fun b hb => (List.mem_erase_of_ne (fun e => by
   have := hi b (List.mem_cons_of_mem _ hb) a (List.mem_cons_self ..) e
   subst this; exact hn.1 hb)).2 (hS b (List.mem_cons_of_mem _ hb))) (fun b hb c hc e => hi b (List.mem_cons_of_mem _ hb) c (List.mem_cons_of_mem _ hc) e)
  rw [List.length_erase_of_mem ha] at this
  have := List.length_pos_of_mem ha
  simp only [List.length_cons]; omega
theorem filter_or {α : Type} (p q r s : α -> Bool) : ∀ (l : List α), (∀ a ∈ l, p a = true -> q a = true \/ r a = true \/ s a = true) -> (l.filter p).length <= (l.filter q).length + (l.filter r).length + (l.filter s).length
 | [], _ => by simp
 | a :: l, h => by
  have ih := filter_or p q r s l (fun b hb => h b (List.mem_cons_of_mem _ hb))
  have ha := h a (List.mem_cons_self ..)
  simp only [List.filter_cons]
  cases ep : p a <;> cases eq : q a <;> cases er : r a <;> cases es : s a <;> simp_all <;> omega
theorem pairs_len {α β : Type} (T : List β) : ∀ (S : List α), (S.flatMap fun a => T.map fun b => (a, b)).length = S.length * T.length
 | [] => by simp
 | a :: S => by simp [pairs_len T S, Nat.add_mul]; omega
theorem filter_range (p : Nd -> Bool) (ns : List Nd) : (ns.filter p).length = ((List.range ns.length).filter fun i => p (nd ns i)).length := by
 have key : (ns.map fun n => p n) = (List.range ns.length).map fun i => p (nd ns i) := by
  apply List.ext_getElem (by simp)
  intro i h1 h2
  simp at h1 h2
  simp [nd_at ns i h1]
 rw [<- List.countP_eq_length_filter, <- List.countP_eq_length_filter]
 have e1 : List.countP p ns = List.countP (fun b : Bool => b) (ns.map fun n => p n) := by rw [List.countP_map]; rfl
 have e2 : List.countP (fun i => p (nd ns i)) (List.range ns.length) = List.countP (fun b : Bool => b) ((List.range ns.length).map fun i => p (nd ns i)) := by rw [List.countP_map]; rfl
 rw [e1, e2, key]
section
variable {ns : List Nd} {vars : Nat}
theorem top_vars (hg : Good vars ns) {h : Int} (ht : topOf ns h ≠ 24) : topOf ns h < (vars : Int) := by
 obtain ⟨h1, h2, h3, -⟩ := node_at ht
 have := Go.Proofs.YtbklgjmkdhinpaaGreatDoor.Bd.top_lt hg.ranked ht
 rw [h3] at this ⊢; exact hg.vars _ h2 this
theorem cnt_le (hg : Good vars ns) : cnt ns <= cntT vars ns + 18 := by
 have hr := hg.ranked
 unfold cnt cntT
 rw [filter_range, filter_range]
 let I5 := (List.range ns.length).filter fun i => decide ((nd ns i).v < 24 /\ (nd ns i).v + 1 = (vars : Int))
 let I4 := (List.range ns.length).filter fun i => decide ((nd ns i).v < 24 /\ (nd ns i).v + 2 = (vars : Int))
 have h0 : ((List.range ns.length).filter fun i => decide ((nd ns i).v < 24)).length <= ((List.range ns.length).filter fun i => lowB vars (nd ns i)).length + I4.length + I5.length := by
  refine filter_or _ _ _ _ _ fun i hi hv => ?_
  rw [List.mem_range] at hi
  simp only [decide_eq_true_eq] at hv
  have := hg.vars i hi hv
  simp only [lowB, decide_eq_true_eq]
  omega
 have n5 : I5.Nodup := (List.nodup_range (n := ns.length)).filter _
 have n4 : I4.Nodup := (List.nodup_range (n := ns.length)).filter _
 have m5 : ∀ i, i ∈ I5 ↔ i < ns.length /\ (nd ns i).v < 24 /\ (nd ns i).v + 1 = (vars : Int) := fun i => by simp [I5]
 have m4 : ∀ i, i ∈ I4 ↔ i < ns.length /\ (nd ns i).v < 24 /\ (nd ns i).v + 2 = (vars : Int) := fun i => by simp [I4]
 have c5 : I5.length <= 2 := by
  refine inj_len I5 [0, 1] (fun i => (nd ns i).l) n5 (fun i hi => ?_) (fun i hi j hj e => ?_)
  ·obtain ⟨h1, h2, h3⟩ := (m5 i).1 hi
   obtain ⟨k1, k2⟩ := hr.l i h1 h2
   have : topOf ns (nd ns i).l = 24 := by
    by_cases t : topOf ns (nd ns i).l = 24
    ·exact t
    ·have := top_vars hg t; omega
   rcases end_of k2 this with e | e <;> simp [e]
  ·obtain ⟨h1, h2, h3⟩ := (m5 i).1 hi
   obtain ⟨g1, g2, g3⟩ := (m5 j).1 hj
   have one : ∀ k, k < ns.length -> (nd ns k).v < 24 -> (nd ns k).v + 1 = (vars : Int) -> (nd ns k).h = 1 := fun k h1 h2 h3 => by
    obtain ⟨k1, k2⟩ := hr.h k h1 h2
    have : topOf ns (nd ns k).h = 24 := by
     by_cases t : topOf ns (nd ns k).h = 24
     ·exact t
     ·have := top_vars hg t; omega
    exact (end_of k2 this).resolve_left (hg.red k h1 h2)
   exact hg.once i j h1 g1 h2 (nd_eq (by omega) e (by rw [one i h1 h2 h3, one j g1 g2 g3]))
 let S0 : List Int := 0 :: 1 :: I5.map (fun i : Nat => 2 + (i : Int))
 have s0 : S0.length <= 4 := by simp [S0]; omega
 have kid : ∀ k i, i ∈ I4 -> (nd ns i).v < topOf ns k -> hasB ns k = true -> k ∈ S0 := fun k i hi ht hk => by
  obtain ⟨h1, h2, h3⟩ := (m4 i).1 hi
  by_cases t : topOf ns k = 24
  ·rcases end_of hk t with e | e <;> simp [S0, e]
  ·have tv := top_vars hg t
   obtain ⟨p1, p2, p3, p4⟩ := node_at t
   have : pl k ∈ I5 := (m5 _).2 ⟨p2, by have := Go.Proofs.YtbklgjmkdhinpaaGreatDoor.Bd.top_lt hr t; omega, by omega⟩
   simp only [S0, List.mem_cons, List.mem_map]
   exact .inr (.inr ⟨pl k, this, p4.symm⟩)
 have c4 : I4.length <= 16 := by
  have := inj_len I4 (S0.flatMap fun a => S0.map fun b => (a, b)) (fun i => ((nd ns i).l, (nd ns i).h)) n4 (fun i hi => ?_) (fun i hi j hj e => ?_)
  ·rw [pairs_len] at this
   have : S0.length * S0.length <= 4 * 4 := Nat.mul_le_mul s0 s0
   omega
  ·obtain ⟨h1, h2, h3⟩ := (m4 i).1 hi
   obtain ⟨k1, k2⟩ := hr.l i h1 h2
   obtain ⟨k3, k4⟩ := hr.h i h1 h2
   rw [List.mem_flatMap]
   exact ⟨_, kid _ i hi k1 k2, List.mem_map.2 ⟨_, kid _ i hi k3 k4, rfl⟩⟩
  ·obtain ⟨h1, h2, h3⟩ := (m4 i).1 hi
   obtain ⟨g1, g2, g3⟩ := (m4 j).1 hj
   simp only [Prod.mk.injEq] at e
   exact hg.once i j h1 g1 h2 (nd_eq (by omega) e.1 e.2)
 omega
theorem cntT_put (hv24 : vars <= 24) (n : Nd) : cntT vars (putN ns (lfree ns) n) <= cntT vars ns + (if n.v + 2 < (vars : Int) then 1 else 0) := by
 unfold cntT putN
 have key : ∀ (l : List Nd) (k : Nat), ((l.set k n).filter (lowB vars)).length <= (l.filter (lowB vars)).length + (if n.v + 2 < (vars : Int) then 1 else 0) := by
  intro l
  induction l with
  | nil => intro k; simp
  | cons a l ih =>
   intro k
   cases k with
   | zero =>
    simp only [List.set_cons_zero, List.filter_cons]
    by_cases hn : n.v + 2 < (vars : Int)
    ·rw [if_pos hn]; split <;> split <;> simp <;> omega
    ·rw [if_neg hn]
     have : lowB vars n = false := by simp [lowB, hn]
     rw [this]; simp only [Bool.false_eq_true, if_false]
     split <;> simp
   | succ k =>
    simp only [List.set_cons_succ, List.filter_cons]
    have := ih k
    split
    ·simp only [List.length_cons]; omega
    ·exact this
 refine Nat.le_trans (key _ _) ?_
 split
 ·rw [List.filter_append]
  have : lowB vars ⟨24, 0, 0⟩ = false := by simp [lowB]; omega
  simp [this]
 ·exact Nat.le_refl _
theorem good_put (hg : Good vars ns) {n : Nd} (hn : n.Ok) (hf : Fit ns n) (hne : n.h ≠ 0) (hv : n.v < (vars : Int)) (hnin : ∀ j, j < ns.length -> nd ns j ≠ n) : Good vars (putN ns (lfree ns) n) := by
 have hk := lfree_le ns
 have hfr : lfree ns < ns.length -> ¬ (nd ns (lfree ns)).v < 24 := lfree_free
 have key : ∀ j, j < (putN ns (lfree ns) n).length -> nd (putN ns (lfree ns) n) j = n /\ j = lfree ns \/ j < ns.length /\ j ≠ lfree ns /\ nd (putN ns (lfree ns) n) j = nd ns j := fun j hj => by
  have hj' := (putN_lt hk j).1 hj
  by_cases e : j = lfree ns
  ·exact .inl ⟨by rw [putN_at hk j hj', if_pos e], e⟩
  ·exact .inr ⟨by omega, e, by rw [putN_at hk j hj', if_neg e]⟩
 refine ⟨putN_ranked hg.ranked hk hfr hn hf, fun i j hi hj hvi e => ?_, fun i hi hvi => ?_, fun i hi hvi => ?_, fun i hi hvi => ?_⟩
 ·rcases key i hi with ⟨e1, x1⟩ | ⟨l1, n1, e1⟩ <;> rcases key j hj with ⟨e2, x2⟩ | ⟨l2, n2, e2⟩
  ·omega
  ·rw [e1, e2] at e; exact absurd e.symm (hnin j l2)
  ·rw [e1, e2] at e; exact absurd e (hnin i l1)
  ·rw [e1] at hvi; rw [e1, e2] at e; exact hg.once i j l1 l2 hvi e
 ·rcases key i hi with ⟨e1, -⟩ | ⟨l1, -, e1⟩ <;> rw [e1] at hvi ⊢
  ·exact hne
  ·exact hg.red i l1 hvi
 ·rcases key i hi with ⟨e1, -⟩ | ⟨l1, -, e1⟩ <;> rw [e1] at hvi ⊢
  ·exact hv
  ·exact hg.vars i l1 hvi
 ·rcases key i hi with ⟨e1, -⟩ | ⟨l1, -, e1⟩ <;> rw [e1] at hvi ⊢
  ·exact absurd hf.v1 hvi
  ·exact hg.free i l1 hvi
def nodeZ (ns : List Nd) (v l h : Int) : List Nd × Int := if h = 0 then (ns, l) else makeF ns ⟨v, l, h⟩
structure Made (vars : Nat) (ns : List Nd) (v l h : Int) (r : List Nd × Int) : Prop where
 good : Good vars r.1
 ext : Ext ns r.1
 has : hasB r.1 r.2 = true
 mem : ∀ x, In r.1 r.2 x ↔ if x.testBit v.toNat = true then In ns h (x ^^^ 2 ^ v.toNat) else In ns l x
 top : v <= topOf r.1 r.2
 cnt : cntT vars r.1 <= cntT vars ns + (if v + 2 < (vars : Int) then 1 else 0)
 len : r.1.length <= max ns.length (Go.Proofs.YtbklgjmkdhinpaaGreatDoor.Bd.cnt ns + 1)
theorem nodeZ_ok (hg : Good vars ns) (hv24 : vars <= 24) {v l h : Int} (hl : ns.length <= 900000) (h0 : 0 <= v) (h24 : v < 24) (hv : v < (vars : Int)) (hl1 : hasB ns l = true) (hh1 : hasB ns h = true) (tl : v < topOf ns l) (th : v < topOf ns h) : Made vars ns v l h (nodeZ ns v l h) := by
 unfold nodeZ
 by_cases e : h = 0
 ·rw [if_pos e]
  subst e
  refine ⟨hg, Ext.refl _, hl1, fun x => ?_, by show v <= topOf ns l; omega, Nat.le_add_right _ _, Nat.le_max_left _ _⟩
  show In ns l x ↔ _
  split
  ·rename_i hx
   refine ⟨fun k => ?_, fun k => absurd k (in_zero _)⟩
   rw [in_low hg.ranked (by omega) k] at hx; cases hx
  ·exact Iff.rfl
 ·rw [if_neg e]
  unfold makeF
  have hi1 := has_i64 hl1 (by omega)
  have hi2 := has_i64 hh1 (by omega)
  by_cases c : idx ns ⟨v, l, h⟩ < ns.length
  ·rw [if_pos c]
   have ha := idx_at c
   have ht : topOf ns (2 + (idx ns ⟨v, l, h⟩ : Int)) = v := by rw [topOf_at c, ha]
   have hp : pl (2 + (idx ns ⟨v, l, h⟩ : Int)) = idx ns ⟨v, l, h⟩ := by unfold pl; omega
   refine ⟨hg, Ext.refl _, ?_, fun x => ?_, ?_, Nat.le_add_right _ _, Nat.le_max_left _ _⟩
   ·show hasB ns _ = true; unfold hasB; rw [ht]; simp [h24]
   ·show In ns _ x ↔ _
    unfold In
    rw [inB_node hg.ranked (by rw [ht]; omega), ht, hp, ha]
    split <;> rfl
   ·show v <= topOf ns (2 + (idx ns ⟨v, l, h⟩ : Int)); omega
  ·rw [if_neg c]
   have hnin : ∀ j, j < ns.length -> nd ns j ≠ ⟨v, l, h⟩ := fun j hj => idx_none c hj
   have hf : Fit ns ⟨v, l, h⟩ := ⟨h0, h24, hl1, hh1, tl, th⟩
   have hgp := good_put hg ⟨⟨by show _ <= v; omega, by show v <= _; omega⟩, hi1, hi2⟩ hf e hv hnin
   have hk := lfree_le ns
   have hx : Ext ns (putN ns (lfree ns) ⟨v, l, h⟩) := ext_put hk lfree_free hg.ranked
   have ht : topOf (putN ns (lfree ns) ⟨v, l, h⟩) (2 + (lfree ns : Int)) = v := putN_self hk
   have hp : pl (2 + (lfree ns : Int)) = lfree ns := by unfold pl; omega
   refine ⟨hgp, hx, ?_, fun x => ?_, ?_, cntT_put hv24 _, put_tight _ _⟩
   ·show hasB _ _ = true; unfold hasB; rw [ht]; simp [h24]
   ·show In _ _ x ↔ _
    have e1 : ∀ y, In ns h y ↔ In (putN ns (lfree ns) ⟨v, l, h⟩) h y := fun y => (in_ext hg.ranked hx hh1 y).symm
    have e2 : ∀ y, In ns l y ↔ In (putN ns (lfree ns) ⟨v, l, h⟩) l y := fun y => (in_ext hg.ranked hx hl1 y).symm
    simp only [e1, e2]
    unfold In
    rw [inB_node hgp.ranked (by rw [ht]; omega), ht, hp, putN_at hk _ (.inr rfl), if_pos rfl]
    split <;> rfl
   ·show v <= topOf (putN ns (lfree ns) ⟨v, l, h⟩) (2 + (lfree ns : Int)); omega
end
end Go.Proofs.YtbklgjmkdhinpaaGreatDoor.Fm
