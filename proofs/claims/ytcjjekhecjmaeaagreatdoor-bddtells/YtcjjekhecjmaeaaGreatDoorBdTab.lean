/- Functions as tables of all values. -/
import Derived.Test.YtcjjekhecjmaeaaGreatDoorArQuad
import Derived.Test.YtcjjekhecjmaeaaGreatDoorArTaken
namespace Go.Proofs.YtcjjekhecjmaeaaGreatDoor
section
open Go.RowKit Go.Maps
section
variable {ns : List Nd} {vars : Nat}
theorem marksOf_in (hr : Ranked ns) (fs : List Int) : ∀ h ∈ fs, MarkedOr ns (marksOf ns fs) h := by
 have : ∀ (fs : List Int) (m : List Bool), m.length = ns.length -> ∀ h, (h ∈ fs \/ MarkedOr ns m h) -> MarkedOr ns (fs.foldl (fun m h => markF 24 ns h m) m) h := by
  intro fs
  induction fs with
  | nil => intro m _ h hh; exact hh.elim (fun h => by cases h) id
  | cons f fs ih =>
   intro m hl h hh
   refine ih _ (by rw [markF_length, hl]) h ?_
   rcases hh with hh | hh
   ·rcases List.mem_cons.1 hh with rfl | hh
    ·exact .inr (markF_closed hr 24 h m hl (by have := (topOf_le hr h).1; omega)).1
    ·exact .inl hh
   ·exact .inr (hh.grow hl 24 f)
 exact fun h hh => this fs _ (by simp) h (.inl hh)
theorem swept_node {M : List Bool} {h : Int} (hm : MarkedOr ns M h) : topOf (swept ns M) h = topOf ns h /\ (topOf ns h ≠ 24 -> nd (swept ns M) (pl h) = nd ns (pl h)) := by
 have e : topOf (swept ns M) h = topOf ns h := by
  rw [swept_top]
  rcases hm with hm | hm
  ·rw [hm]; split <;> rfl
  ·rw [if_pos hm]
 refine ⟨e, fun ht => ?_⟩
 rcases hm with hm | hm
 ·exact absurd hm ht
 ·rw [swept_at ns M _ (node_at ht).2.1, if_pos (show mk M (pl h) = true from hm)]
theorem swept_good (hg : Good vars ns) (fs : List Int) : Good vars (swept ns (marksOf ns fs)) := by
 have hr := swept_ranked_any hg.ranked fs
 generalize marksOf ns fs = M at *
 have key : ∀ j, j < ns.length -> mk M j = true /\ nd (swept ns M) j = nd ns j \/ nd (swept ns M) j = ⟨24, 0, 0⟩ := fun j hj => by
  rw [swept_at ns M j hj]
  by_cases h : mk M j = true
  ·exact .inl ⟨h, by rw [if_pos h]⟩
  ·exact .inr (by rw [if_neg h])
 refine ⟨hr, fun i j hi hj hv e => ?_, fun i hi hv => ?_, fun i hi hv => ?_, fun i hi hv => ?_⟩
 ·rw [swept_length] at hi hj
  rcases key i hi with ⟨-, e1⟩ | e1 <;> rw [e1] at hv e
  ·rcases key j hj with ⟨-, e2⟩ | e2 <;> rw [e2] at e
   ·exact hg.once i j hi hj hv e
   ·rw [e] at hv; simp at hv
  ·simp at hv
 ·rw [swept_length] at hi
  rcases key i hi with ⟨-, e1⟩ | e1 <;> rw [e1] at hv ⊢
  ·exact hg.red i hi hv
  ·simp at hv
 ·rw [swept_length] at hi
  rcases key i hi with ⟨-, e1⟩ | e1 <;> rw [e1] at hv ⊢
  ·exact hg.vars i hi hv
  ·simp at hv
 ·rw [swept_length] at hi
  rcases key i hi with ⟨-, e1⟩ | e1 <;> rw [e1] at hv ⊢
  exact hg.free i hi hv
theorem semF_swept (hr : Ranked ns) (fs : List Int) (f : Nat -> Bool) : ∀ (d : Nat) (h : Int), MarkedOr ns (marksOf ns fs) h -> semF d (swept ns (marksOf ns fs)) h f = semF d ns h f
 | 0, _, _ => rfl
 | d + 1, h, hm => by
  obtain ⟨e1, e2⟩ := swept_node hm
  unfold semF
  rw [e1]
  by_cases ht : topOf ns h = 24
  ·rw [if_pos ht, if_pos ht]
  ·have hk := marksOf_closed hr fs (pl h) (node_at ht).2.1 (hm.resolve_left ht)
   rw [if_neg ht, if_neg ht, e2 ht, semF_swept hr fs f d _ hk.1, semF_swept hr fs f d _ hk.2]
theorem swept_kept (hg : Good vars ns) {fs : List Int} {h : Int} (hh : h ∈ fs) (hb : hasB ns h = true) : hasB (swept ns (marksOf ns fs)) h = true /\ ∀ f, sem (swept ns (marksOf ns fs)) h f = sem ns h f := by
 have hm := marksOf_in hg.ranked fs h hh
 refine ⟨?_, fun f => semF_swept hg.ranked fs f 24 h hm⟩
 unfold hasB; rw [(swept_node hm).1]; exact hb
end
def oddB (x : Int) : Bool := x.tmod 2 != 0
def alAt (al : List Int) (x : Int) : Int := al.getD (pickV x al.length) 0
def stepF (vars : Nat) (ns : List Nd) (al : List Int) (q : Quad) : List Nd × Int :=
 match pickV q.a 9 with
 | 0 => litF ns (pickV q.b vars : Int) (oddB q.c)
 | 1 => askF true ns ⟨alAt al q.b, 0, 1⟩
 | 2 => askF true ns ⟨alAt al q.b, alAt al q.c, 0⟩
 | 3 => askF true ns ⟨alAt al q.b, 1, alAt al q.c⟩
 | 4 => askF false ns ⟨alAt al q.b, alAt al q.c, 0⟩
 | 5 => askF true ns ⟨alAt al q.b, alAt al q.c, alAt al q.d⟩
 | 6 => withoutF (setJ (oddB q.d)) ns (alAt al q.b) (pickV q.c vars : Int)
 | 7 => withoutF orJ ns (alAt al q.b) (pickV q.c vars : Int)
 | _ => withoutF andJ ns (alAt al q.b) (pickV q.c vars : Int)
abbrev Fn' : Type := (Nat -> Bool) -> Bool
def tAt (T : List Fn') (x : Int) : Fn' := T.getD (pickV x T.length) (fun _ => false)
def stepT (vars : Nat) (T : List Fn') (q : Quad) : Fn' :=
 match pickV q.a 9 with
 | 0 => fun f => f (pickV q.b vars) == oddB q.c
 | 1 => fun f => !(tAt T q.b f)
 | 2 => fun f => tAt T q.b f && tAt T q.c f
 | 3 => fun f => tAt T q.b f || tAt T q.c f
 | 4 => fun f => tAt T q.b f != tAt T q.c f
 | 5 => fun f => if tAt T q.b f = true then tAt T q.c f else tAt T q.d f
 | 6 => fun f => tAt T q.b (turn f (pickV q.c vars) (oddB q.d))
 | 7 => fun f => tAt T q.b (turn f (pickV q.c vars) false) || tAt T q.b (turn f (pickV q.c vars) true)
 | _ => fun f => tAt T q.b (turn f (pickV q.c vars) false) && tAt T q.b (turn f (pickV q.c vars) true)
structure Sems (vars : Nat) (ns : List Nd) (al : List Int) (T : List Fn') : Prop where
 good : Good vars ns
 has : ∀ h ∈ al, hasB ns h = true
 len : al.length = T.length
 sem : ∀ i (h1 : i < al.length) (h2 : i < T.length), ∀ f, sem ns al[i] f = T[i] f
section
variable {vars : Nat} {ns : List Nd} {al : List Int} {T : List Fn'}
theorem Sems.at (h : Sems vars ns al T) (hne : 0 < al.length) (x : Int) : hasB ns (alAt al x) = true /\ ∀ f, Go.Proofs.YtcjjekhecjmaeaaGreatDoor.sem ns (alAt al x) f = tAt T x f := by
 have hl := pickV_lt x hne
 have e1 : alAt al x = al[pickV x al.length] := by unfold alAt; simp [List.getD_eq_getElem?_getD, List.getElem?_eq_getElem hl]
 have e2 : tAt T x = T[pickV x T.length]'(by rw [<- h.len]; exact hl) := by unfold tAt; simp [List.getD_eq_getElem?_getD, List.getElem?_eq_getElem (show pickV x T.length < T.length by rw [<- h.len]; exact hl)]
 refine ⟨by rw [e1]; exact h.has _ (List.getElem_mem hl), fun f => ?_⟩
 have h0 := h.sem (pickV x al.length) hl (by rw [<- h.len]; exact hl) f
 have e3 : T[pickV x al.length]'(by rw [<- h.len]; exact hl) = T[pickV x T.length]'(by rw [<- h.len]; exact hl) := getElem_congr_idx (by rw [h.len])
 rw [e1, h0, e2, e3]
theorem step_ok (hs : Sems vars ns al T) (hne : 0 < al.length) (hv0 : 0 < vars) (hv : vars <= 24) (hl : ns.length + 2 ^ vars <= 900000) (q : Quad) : OpR vars ns (stepF vars ns al q) (stepT vars T q) := by
 obtain ⟨ha, sa⟩ := hs.at hne q.b
 obtain ⟨hb, sb⟩ := hs.at hne q.c
 obtain ⟨hc, sc⟩ := hs.at hne q.d
 have hg := hs.good
 have pb := pickV_lt q.b hv0
 have pc := pickV_lt q.c hv0
 have tn : ∀ n : Nat, ((n : Int)).toNat = n := fun n => by omega
 unfold stepF stepT
 split
 ·have := lit_ok hg (v := (pickV q.b vars : Int)) (oddB q.c) (by omega) (by omega) (by omega) hl
  exact ⟨this.good, this.ext, this.has, fun f => by rw [this.sem f, tn], this.len⟩
 ·have := ask_ok' true hg (k := ⟨alAt al q.b, 0, 1⟩) ⟨ha, has_end0 ns, has_end1 ns⟩ hl
  exact ⟨this.good, this.ext, this.has, fun f => by rw [this.sem f]; simp only [opS, if_true, sem_true, sem_false, sa f]; cases tAt T q.b f <;> rfl, this.len⟩
 ·have := ask_ok' true hg (k := ⟨alAt al q.b, alAt al q.c, 0⟩) ⟨ha, hb, has_end0 ns⟩ hl
  exact ⟨this.good, this.ext, this.has, fun f => by rw [this.sem f]; simp only [opS, if_true, sem_false, sa f, sb f]; cases tAt T q.b f <;> simp, this.len⟩
 ·have := ask_ok' true hg (k := ⟨alAt al q.b, 1, alAt al q.c⟩) ⟨ha, has_end1 ns, hb⟩ hl
  exact ⟨this.good, this.ext, this.has, fun f => by rw [this.sem f]; simp only [opS, if_true, sem_true, sa f, sb f]; cases tAt T q.b f <;> simp, this.len⟩
 ·have := ask_ok' false hg (k := ⟨alAt al q.b, alAt al q.c, 0⟩) ⟨ha, hb, has_end0 ns⟩ hl
  exact ⟨this.good, this.ext, this.has, fun f => by rw [this.sem f]; simp only [opS, Bool.false_eq_true, if_false, sa f, sb f], this.len⟩
 ·have := ask_ok' true hg (k := ⟨alAt al q.b, alAt al q.c, alAt al q.d⟩) ⟨ha, hb, hc⟩ hl
  exact ⟨this.good, this.ext, this.has, fun f => by rw [this.sem f]; simp only [opS, if_true, sa f, sb f, sc f], this.len⟩
 ·have := without_ok (setJ_ok vars (pickV q.c vars : Int) (oddB q.d)) trivial hg ha (by omega) (by omega) hl
  exact ⟨this.good, this.ext, this.has, fun f => by rw [this.sem f]; unfold quant; rw [tn, sa, sa]; cases oddB q.d <;> rfl, this.len⟩
 ·have := without_ok (orJ_ok (v := (pickV q.c vars : Int)) (by omega) (by omega)) (memo_nil true ns) hg ha (by omega) (by omega) hl
  exact ⟨this.good, this.ext, this.has, fun f => by rw [this.sem f]; unfold quant; rw [tn, sa, sa], this.len⟩
 ·have := without_ok (andJ_ok (v := (pickV q.c vars : Int)) (by omega) (by omega)) (memo_nil true ns) hg ha (by omega) (by omega) hl
  exact ⟨this.good, this.ext, this.has, fun f => by rw [this.sem f]; unfold quant; rw [tn, sa, sa], this.len⟩
def roundF (vars : Nat) (st : List Nd × List Int) (q : Quad) : List Nd × List Int :=
 (swept (stepF vars st.1 st.2 q).1 (marksOf (stepF vars st.1 st.2 q).1 (st.2 ++ [(stepF vars st.1 st.2 q).2])), st.2 ++ [(stepF vars st.1 st.2 q).2])
def roundT (vars : Nat) (T : List Fn') (q : Quad) : List Fn' := T ++ [stepT vars T q]
def funF (vars : Nat) (st : List Nd × List Int) (qs : List Quad) : List Nd × List Int := qs.foldl (roundF vars) st
def funT (vars : Nat) (T : List Fn') (qs : List Quad) : List Fn' := qs.foldl (roundT vars) T
theorem Sems.swept (h : Sems vars ns al T) : Sems vars (Go.Proofs.YtcjjekhecjmaeaaGreatDoor.swept ns (marksOf ns al)) al T :=
 ⟨swept_good h.good al, fun x hx => (swept_kept h.good hx (h.has x hx)).1, h.len, fun i h1 h2 f => by rw [(swept_kept h.good (List.getElem_mem h1) (h.has _ (List.getElem_mem h1))).2 f]; exact h.sem i h1 h2 f⟩
theorem Sems.more {ns' : List Nd} {x : Int} {g : Fn'} (h : Sems vars ns al T) (hg : Good vars ns') (he : Ext ns ns') (hx : hasB ns' x = true) (hs : ∀ f, Go.Proofs.YtcjjekhecjmaeaaGreatDoor.sem ns' x f = g f) : Sems vars ns' (al ++ [x]) (T ++ [g]) := by
 refine ⟨hg, fun y hy => ?_, by simp [h.len], fun i h1 h2 f => ?_⟩
 ·rcases List.mem_append.1 hy with hy | hy
  ·exact he.has y (h.has y hy)
  ·rw [List.mem_singleton] at hy; subst hy; exact hx
 ·by_cases hi : i < al.length
  ·rw [List.getElem_append_left hi, List.getElem_append_left (by rw [<- h.len]; exact hi), sem_ext h.good.ranked he (h.has _ (List.getElem_mem hi))]
   exact h.sem i hi (by rw [<- h.len]; exact hi) f
  ·have e : i = al.length := by simp at h1; omega
   subst e
   have e2 : (T ++ [g])[al.length]'h2 = g := by simp [h.len]
   rw [e2]; simp [hs f]
theorem round_ok (hs : Sems vars ns al T) (hne : 0 < al.length) (hv0 : 0 < vars) (hv : vars <= 24) (hl : ns.length + 2 ^ vars <= 900000) (q : Quad) :
  Sems vars (roundF vars (ns, al) q).1 (roundF vars (ns, al) q).2 (roundT vars T q) /\ (roundF vars (ns, al) q).1.length + 1 <= ns.length + 2 ^ vars := by
 have r := step_ok hs hne hv0 hv hl q
 refine ⟨(hs.more r.good r.ext r.has r.sem).swept, ?_⟩
 show (Go.Proofs.YtcjjekhecjmaeaaGreatDoor.swept _ _).length + 1 <= _
 rw [swept_length]; exact r.len
end
theorem roundF_len (vars : Nat) (st : List Nd × List Int) (q : Quad) : (roundF vars st q).2.length = st.2.length + 1 := by simp [roundF]
theorem funF_snoc (vars : Nat) (st : List Nd × List Int) (qs : List Quad) (q : Quad) : funF vars st (qs ++ [q]) = roundF vars (funF vars st qs) q := by simp [funF]
theorem funT_snoc (vars : Nat) (T : List Fn') (qs : List Quad) (q : Quad) : funT vars T (qs ++ [q]) = roundT vars (funT vars T qs) q := by simp [funT]
theorem sems_start {vars : Nat} {ns : List Nd} (hg : Good vars ns) : Sems vars ns [0, 1] [fun _ => false, fun _ => true] := by
 refine ⟨hg, fun h hh => ?_, rfl, fun i h1 h2 f => ?_⟩
 ·simp at hh; rcases hh with rfl | rfl
  ·exact has_end0 ns
  ·exact has_end1 ns
 ·simp at h1
  obtain rfl | rfl : i = 0 \/ i = 1 := by omega
  ·exact sem_false f
  ·exact sem_true f
theorem fun_ok {vars : Nat} (hv0 : 0 < vars) (hv : vars <= 6) : ∀ (qs : List Quad) (ns : List Nd) (al : List Int) (T : List Fn'), Sems vars ns al T -> 0 < al.length -> ns.length + 64 * qs.length <= 800000 ->
  Sems vars (funF vars (ns, al) qs).1 (funF vars (ns, al) qs).2 (funT vars T qs) /\ (funF vars (ns, al) qs).1.length <= ns.length + 63 * qs.length /\ (funF vars (ns, al) qs).2.length = al.length + qs.length
 | [], ns, al, T, hs, _, _ => ⟨hs, by show ns.length <= _; simp, by show al.length = _; simp⟩
 | q :: qs, ns, al, T, hs, hne, hl => by
  have p6 : 2 ^ vars <= 64 := Nat.pow_le_pow_right (n := 2) (by omega) hv
  simp only [List.length_cons] at hl
  obtain ⟨h1, h2⟩ := round_ok hs hne hv0 (by omega) (by omega) q
  have h3 := roundF_len vars (ns, al) q
  have ih := fun_ok hv0 hv qs (roundF vars (ns, al) q).1 (roundF vars (ns, al) q).2 (roundT vars T q) h1 (by rw [h3]; omega) (by omega)
  refine ⟨ih.1, ?_, ?_⟩
  ·have := ih.2.1
   show (funF vars (roundF vars (ns, al) q) qs).1.length <= _
   simp only [List.length_cons]
   have e : (funF vars ((roundF vars (ns, al) q).1, (roundF vars (ns, al) q).2) qs).1.length = (funF vars (roundF vars (ns, al) q) qs).1.length := rfl
   omega
  ·have := ih.2.2
   show (funF vars (roundF vars (ns, al) q) qs).2.length = _
   simp only [List.length_cons]
   have e : (funF vars ((roundF vars (ns, al) q).1, (roundF vars (ns, al) q).2) qs).2.length = (funF vars (roundF vars (ns, al) q) qs).2.length := rfl
   rw [h3] at this
   have e2 : ((ns, al) : List Nd × List Int).2.length = al.length := rfl
   omega
end
section
open Go.RowKit Go.Maps
theorem bits_or (i v : Nat) : bitsF (i ||| 1 <<< v) = turn (bitsF i) v true := by
 funext k
 unfold bitsF turn
 rw [Nat.testBit_or, Nat.one_shiftLeft, Nat.testBit_two_pow]
 by_cases h : k = v
 ·simp [h]
 ·rw [if_neg h, decide_eq_false (fun e => h e.symm), Bool.or_false]
def tabOf (vars : Nat) (g : Fn') : List Bool := (List.range (2 ^ vars)).map fun i => g (bitsF i)
theorem tabOf_len (vars : Nat) (g : Fn') : (tabOf vars g).length = 2 ^ vars := by simp [tabOf]
theorem tabOf_at (vars : Nat) (g : Fn') (i : Nat) (h : i < (tabOf vars g).length) : (tabOf vars g)[i] = g (bitsF i) := by simp [tabOf]
def numOf' (f : Nat -> Bool) : Nat -> Nat
 | 0 => 0
 | n + 1 => numOf' f n + (if f n then 2 ^ n else 0)
theorem numOf_lt (f : Nat -> Bool) : ∀ n, numOf' f n < 2 ^ n
 | 0 => by simp [numOf']
 | n + 1 => by
  have := numOf_lt f n
  unfold numOf'
  rw [Nat.pow_succ]
  split <;> omega
theorem numOf_bit (f : Nat -> Bool) : ∀ n i, i < n -> bitsF (numOf' f n) i = f i
 | n + 1, i, h => by
  have hl := numOf_lt f n
  unfold numOf' bitsF
  by_cases e : i = n
  ·subst e
   cases hf : f i with
   | true =>
    rw [if_pos rfl, Nat.add_comm, Nat.testBit_two_pow_add_eq, Nat.testBit_lt_two_pow hl]; rfl
   | false =>
    rw [if_neg (by simp), Nat.add_zero, Nat.testBit_lt_two_pow hl]
  ·have hi : i < n := by omega
   have ih := numOf_bit f n i hi
   unfold bitsF at ih
   cases hf : f n with
   | true =>
    rw [if_pos rfl, Nat.add_comm, Nat.testBit_two_pow_add_gt hi, ih]
   | false =>
    rw [if_neg (by simp), Nat.add_zero, ih]
theorem semF_vars {vars : Nat} {ns : List Nd} (hg : Good vars ns) {f g : Nat -> Bool} (hfg : ∀ i, i < vars -> f i = g i) : ∀ (d : Nat) (h : Int), semF d ns h f = semF d ns h g
 | 0, _ => rfl
 | d + 1, h => by
  unfold semF
  by_cases ht : topOf ns h = 24
  ·rw [if_pos ht, if_pos ht]
  ·have hv := top_vars hg ht
   have h0 := (topOf_le hg.ranked h).1
   rw [if_neg ht, if_neg ht, hfg (topOf ns h).toNat (by omega), semF_vars hg hfg d, semF_vars hg hfg d]
theorem sem_vars {vars : Nat} {ns : List Nd} (hg : Good vars ns) {f g : Nat -> Bool} (hfg : ∀ i, i < vars -> f i = g i) (h : Int) : sem ns h f = sem ns h g := semF_vars hg hfg 24 h
theorem same_tab {vars : Nat} {ns : List Nd} (hg : Good vars ns) {a b : Int} {p q : Fn'} (ha : hasB ns a = true) (hb : hasB ns b = true) (hp : ∀ f, sem ns a f = p f) (hq : ∀ f, sem ns b f = q f) : a = b ↔ tabOf vars p = tabOf vars q := by
 constructor
 ·rintro rfl
  unfold tabOf
  exact List.map_congr_left fun i _ => by rw [<- hp, <- hq]
 ·intro e
  refine same_handle hg ha hb fun f => ?_
  have hl := numOf_lt f vars
  have hf : ∀ i, i < vars -> f i = bitsF (numOf' f vars) i := fun i hi => (numOf_bit f vars i hi).symm
  rw [sem_vars hg hf a, sem_vars hg hf b, hp, hq]
  have h1 := tabOf_at vars p (numOf' f vars) (by rw [tabOf_len]; exact hl)
  have h2 := tabOf_at vars q (numOf' f vars) (by rw [tabOf_len]; exact hl)
  rw [<- h1, <- h2]
  simp only [e]
end
end Go.Proofs.YtcjjekhecjmaeaaGreatDoor
