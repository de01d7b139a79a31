/- The search, step by step: plain. -/
import Derived.Test.YtcmmoinkhodjfabDoorClPlain
namespace Go.Proofs.YtcmmoinkhodjfabDoor
open Go.RowKit Go.Deep

/-- What is told, the decisions (each with what was told ahead of it), and the proof. -/
structure St where
  told : List Int
  decs : List (Int × List Int)
  prf : List (List Int)
inductive Res where
  | sat (told : List Int)
  | unsat (prf : List (List Int))
  | limit

def refC (decs : List (Int × List Int)) : List Int := decs.map fun d => -d.1
def leastF (v : Nat) (told : List Int) : Int := idxF (fun i => tv told i == 0) (List.range v)
def stepF (v : Nat) (l : List (List Int)) (s : St) : St ⊕ Res :=
  if (nextF s.told (l ++ s.prf)).2 ≠ 0 then .inl { s with told := s.told ++ [(nextF s.told (l ++ s.prf)).2] }
  else if 0 ≤ (nextF s.told (l ++ s.prf)).1 then
    match s.decs.getLast? with
    | none => .inr (.unsat (s.prf ++ [refC s.decs]))
    | some d => if s.prf.length + 1 = 2000 then .inr .limit else .inl ⟨d.2, s.decs.dropLast, s.prf ++ [refC s.decs]⟩
  else if leastF v s.told < 0 then .inr (.sat s.told)
  else .inl ⟨s.told ++ [leastF v s.told + 1], s.decs ++ [(leastF v s.told + 1, s.told)], s.prf⟩

inductive Run (v : Nat) (l : List (List Int)) : St → Res → Prop
  | done {s : St} {r : Res} (h : stepF v l s = .inr r) : Run v l s r
  | go {s s' : St} {r : Res} (h : stepF v l s = .inl s') (hr : Run v l s' r) : Run v l s r
theorem Run.at_done {v : Nat} {l : List (List Int)} {s : St} {r r' : Res} (h : Run v l s r) (hd : stepF v l s = .inr r') : r = r' := by
  cases h with
  | done h => rw [hd] at h; cases h; rfl
  | go h _ => rw [hd] at h; cases h
theorem Run.at_go {v : Nat} {l : List (List Int)} {s s' : St} {r : Res} (h : Run v l s r) (hd : stepF v l s = .inl s') : Run v l s' r := by
  cases h with
  | done h => rw [hd] at h; cases h
  | go h hr => rw [hd] at h; cases h; exact hr
theorem Run.det {v : Nat} {l : List (List Int)} {s : St} {r r' : Res} (h : Run v l s r) (h' : Run v l s r') : r = r' := by
  induction h with
  | done h => exact (h'.at_done h).symm
  | go h _ ih => exact ih (h'.at_go h)
/-- For closed inputs. -/
def runF (v : Nat) (l : List (List Int)) : Nat → St → Option Res
  | 0, _ => none
  | n + 1, s => match stepF v l s with | .inr r => some r | .inl s' => runF v l n s'
theorem run_of {v : Nat} {l : List (List Int)} : ∀ {n : Nat} {s : St} {r : Res}, runF v l n s = some r → Run v l s r
  | 0, _, _, h => by simp [runF] at h
  | n + 1, s, r, h => by
    unfold runF at h
    cases hs : stepF v l s with
    | inr r' => rw [hs] at h; simp at h; subst h; exact .done hs
    | inl s' => rw [hs] at h; exact .go hs (run_of h)

def GoodD (v : Nat) (k : Nat) (d : Int × List Int) : Prop := Cons d.2 ∧ Lits v d.2 ∧ k + free d.2 ≤ 24 ∧ litB v d.1 = true
structure Good (v : Nat) (s : St) : Prop where
  cons : Cons s.told
  lits : Lits v s.told
  few : s.decs.length + free s.told ≤ 24
  pl : s.prf.length < 2000
  litsP : LitsL v s.prf
  ds : ∀ k d, s.decs[k]? = some d → GoodD v k d

theorem free_le (told : List Int) : free told ≤ 24 := by
  unfold free
  refine Nat.le_trans List.countP_le_length ?_
  simp

theorem least_is {v : Nat} {told : List Int} : (leastF v told = -1 ∧ ∀ i, i < v → tv told i ≠ 0) ∨ ∃ k : Nat, leastF v told = (k : Int) ∧ k < v ∧ tv told k = 0 ∧ ∀ i, i < k → tv told i ≠ 0 := by
  unfold leastF
  rcases idxF_cases (fun i => tv told i == 0) (List.range v) 0 with ⟨h, h1⟩ | ⟨k, h, hk, h1, h2⟩
  · exact Or.inl ⟨h, fun i hi => by simpa using h1 i (List.mem_range.2 hi)⟩
  · rw [List.length_range] at hk
    have e : (List.range v).getD k 0 = k := by simp [List.getD_eq_getElem?_getD, hk]
    rw [e] at h1
    refine Or.inr ⟨k, h, hk, by simpa using h1, fun i hi => ?_⟩
    have := h2 i (by rw [List.take_range, List.mem_range]; omega)
    simpa using this

theorem litsL_append {v : Int} {l m : List (List Int)} (h1 : LitsL v l) (h2 : LitsL v m) : LitsL v (l ++ m) := fun c hc => by
  rcases List.mem_append.1 hc with h | h
  · exact h1 c h
  · exact h2 c h
theorem refC_lits {v : Nat} {s : St} (h : Good v s) : Lits v (refC s.decs) := by
  intro x hx
  unfold refC at hx
  obtain ⟨d, hd, rfl⟩ := List.mem_map.1 hx
  obtain ⟨k, hk⟩ := List.getElem?_of_mem hd
  have := (h.ds k d hk).2.2.2
  rw [litB_iff] at *
  omega

def mu (s : St) : Nat := (2000 - s.prf.length) * 25 + free s.told

theorem step_good {v : Nat} {l : List (List Int)} (hv : v ≤ 24) (hl : LitsL v l) {s s' : St} (h : Good v s) (e : stepF v l s = .inl s') : Good v s' ∧ mu s' < mu s := by
  unfold stepF at e
  have hlp := litsL_append hl h.litsP
  by_cases h1 : (nextF s.told (l ++ s.prf)).2 ≠ 0
  · rw [if_pos h1] at e
    injection e with e
    subst e
    obtain ⟨q1, q2, q3, q4, q5⟩ := next_step hlp h.cons h.lits (i := (nextF s.told (l ++ s.prf)).1) (x := (nextF s.told (l ++ s.prf)).2) rfl h1
    have hf := free_tell (lit_24 (by omega) q1) q2 q3
    have := h.few
    exact ⟨⟨q4, q5, by show s.decs.length + free (s.told ++ _) ≤ 24; omega, h.pl, h.litsP, h.ds⟩, by unfold mu; show (2000 - s.prf.length) * 25 + free (s.told ++ _) < _; omega⟩
  · rw [if_neg h1] at e
    by_cases h2 : 0 ≤ (nextF s.told (l ++ s.prf)).1
    · rw [if_pos h2] at e
      cases hd : s.decs.getLast? with
      | none => rw [hd] at e; cases e
      | some d =>
        rw [hd] at e
        by_cases h3 : s.prf.length + 1 = 2000
        · simp only [if_pos h3] at e; cases e
        · simp only [if_neg h3] at e
          injection e with e
          subst e
          have hne : s.decs ≠ [] := fun e => by rw [e] at hd; cases hd
          have hpos := List.length_pos_iff.2 hne
          have hlast : s.decs[s.decs.length - 1]? = some d := by rw [← List.getLast?_eq_getElem?]; exact hd
          obtain ⟨g1, g2, g3, g4⟩ := h.ds _ _ hlast
          have hpl := h.pl
          refine ⟨⟨g1, g2, by show s.decs.dropLast.length + free d.2 ≤ 24; rw [List.length_dropLast]; exact g3, by show (s.prf ++ [_]).length < 2000; simp; omega, litsL_append h.litsP (fun c hc => by rw [List.mem_singleton] at hc; subst hc; exact refC_lits h), fun k d' hk => ?_⟩, ?_⟩
          · have hk' : s.decs.dropLast[k]? = some d' := hk
            rw [List.getElem?_dropLast] at hk'
            split at hk'
            · exact h.ds k d' hk'
            · cases hk'
          · have := free_le d.2
            unfold mu
            show (2000 - (s.prf ++ [refC s.decs]).length) * 25 + free d.2 < (2000 - s.prf.length) * 25 + free s.told
            simp only [List.length_append, List.length_singleton]
            have : 2000 - s.prf.length = (2000 - (s.prf.length + 1)) + 1 := by omega
            rw [this, Nat.add_mul]
            omega
    · rw [if_neg h2] at e
      by_cases h3 : leastF v s.told < 0
      · rw [if_pos h3] at e; cases e
      · rw [if_neg h3] at e
        injection e with e
        subst e
        rcases least_is (v := v) (told := s.told) with ⟨h4, _⟩ | ⟨k, h4, hk, h5, _⟩
        · omega
        · have hlt : litB v ((k : Int) + 1) = true := by rw [litB_iff]; omega
          obtain ⟨n1, n2⟩ := tv_zero.1 h5
          have hf := free_tell (lit_24 (by omega) hlt) n1 n2
          have := h.few
          rw [h4]
          refine ⟨⟨cons_tell h.cons (by omega) n2, lits_tell h.lits hlt, ?_, h.pl, h.litsP, fun j d hj => ?_⟩, ?_⟩
          · show (s.decs ++ [_]).length + free (s.told ++ _) ≤ 24
            simp only [List.length_append, List.length_singleton]; omega
          · have hj' : (s.decs ++ [((k : Int) + 1, s.told)])[j]? = some d := hj
            rw [List.getElem?_append] at hj'
            split at hj'
            · exact h.ds j d hj'
            · rename_i hge
              have hjl : j - s.decs.length = 0 := by
                rcases Nat.eq_zero_or_pos (j - s.decs.length) with h | h
                · exact h
                · rw [List.getElem?_eq_none (by simp; omega)] at hj'; cases hj'
              rw [hjl] at hj'
              simp at hj'
              subst hj'
              exact ⟨h.cons, h.lits, by show j + free s.told ≤ 24; omega, hlt⟩
          · unfold mu
            show (2000 - s.prf.length) * 25 + free (s.told ++ _) < _
            omega

theorem run_ex {v : Nat} {l : List (List Int)} (hv : v ≤ 24) (hl : LitsL v l) : ∀ (n : Nat) (s : St), mu s ≤ n → Good v s → ∃ r, Run v l s r := by
  intro n
  induction n with
  | zero =>
    intro s hm hg
    cases e : stepF v l s with
    | inr r => exact ⟨r, .done e⟩
    | inl s' => have := (step_good hv hl hg e).2; omega
  | succ n ih =>
    intro s hm hg
    cases e : stepF v l s with
    | inr r => exact ⟨r, .done e⟩
    | inl s' =>
      obtain ⟨g, hlt⟩ := step_good hv hl hg e
      obtain ⟨r, hr⟩ := ih s' (by omega) g
      exact ⟨r, .go e hr⟩
def st0 : St := ⟨[], [], []⟩
theorem good0 (v : Nat) : Good v st0 := ⟨cons_nil, lits_nil v, by decide, by decide, (fun c hc => by cases hc), (fun k d h => by simp [st0] at h)⟩
end Go.Proofs.YtcmmoinkhodjfabDoor
