/- The search finds what there is, and the first: plain. -/
import Derived.Test.YtcmmoinkhodjfabDoorClMath
import Derived.Test.YtcmmoinkhodjfabDoorClNum
namespace Go.Proofs.YtcmmoinkhodjfabDoor
open Go.RowKit Go.Deep

def DecsHold (vals : Nat) (ds : List (Int × List Int)) : Prop := ∀ d ∈ ds, litH vals d.1 = true

structure Inv (l : List (List Int)) (ds : List (Int × List Int)) (told : List Int) : Prop where
  imp : ∀ vals, SatL vals l → DecsHold vals ds → Sat vals told
  first : ∀ x ∈ told, x < 0 → ∀ vals, SatL vals l → (∀ d ∈ ds, d.1 < -x → litH vals d.1 = true) → litH vals x = true
  low : ∀ d ∈ ds, ∀ u, 0 < u → u ≤ d.1 → u ∈ told ∨ -u ∈ told
  mem : ∀ d ∈ ds, d.1 ∈ told
  pos : ∀ d ∈ ds, 0 < d.1
structure InvS (l : List (List Int)) (s : St) : Prop where
  now : Inv l s.decs s.told
  past : ∀ k d, s.decs[k]? = some d → Inv l (s.decs.take k) d.2
  prf : ∀ vals, SatL vals l → SatL vals s.prf

theorem inv0 (l : List (List Int)) : InvS l st0 := by
  refine ⟨⟨(fun _ _ _ x hx => by cases hx), (fun x hx => by cases hx), (fun d hd => by cases hd), (fun d hd => by cases hd), (fun d hd => by cases hd)⟩, (fun k d h => by simp [st0] at h), (fun _ _ c hc => by cases hc)⟩

theorem satL_append {vals : Nat} {l m : List (List Int)} (h1 : SatL vals l) (h2 : SatL vals m) : SatL vals (l ++ m) := fun c hc => by
  rcases List.mem_append.1 hc with h | h
  · exact h1 c h
  · exact h2 c h

theorem Inv.tell {l : List (List Int)} {ds : List (Int × List Int)} {told : List Int} (h : Inv l ds told) {x : Int} (h0 : x ∉ told) (h1 : -x ∉ told) (hx : ∀ vals, SatL vals l → Sat vals told → litH vals x = true) : Inv l ds (told ++ [x]) := by
  refine ⟨fun vals hs hd => sat_tell (h.imp vals hs hd) (hx vals hs (h.imp vals hs hd)), fun y hy hneg vals hs hd => ?_, fun d hd u hu0 hu1 => ?_, fun d hd => List.mem_append.2 (Or.inl (h.mem d hd)), h.pos⟩
  · simp only [List.mem_append, List.mem_singleton] at hy
    rcases hy with hy | hy
    · exact h.first y hy hneg vals hs hd
    · subst hy
      refine hx vals hs (h.imp vals hs fun d hdd => hd d hdd ?_)
      rcases Int.lt_or_le d.1 (-y) with hlt | hle
      · exact hlt
      · rcases h.low d hdd (-y) (by omega) hle with h2 | h2
        · exact absurd h2 h1
        · rw [Int.neg_neg] at h2; exact absurd h2 h0
  · rcases h.low d hd u hu0 hu1 with h2 | h2
    · exact Or.inl (List.mem_append.2 (Or.inl h2))
    · exact Or.inr (List.mem_append.2 (Or.inl h2))

theorem step_inv {v : Nat} {l : List (List Int)} (hl : LitsL v l) {s s' : St} (hg : Good v s) (h : InvS l s) (e : stepF v l s = .inl s') : InvS l s' := by
  have hlp := litsL_append hl hg.litsP
  have hsl : ∀ vals, SatL vals l → SatL vals (l ++ s.prf) := fun vals hs => satL_append hs (h.prf vals hs)
  unfold stepF at e
  by_cases h1 : (nextF s.told (l ++ s.prf)).2 ≠ 0
  · rw [if_pos h1] at e
    injection e with e
    subst e
    obtain ⟨q1, q2, q3, q4, q5⟩ := next_step hlp hg.cons hg.lits (i := (nextF s.told (l ++ s.prf)).1) (x := (nextF s.told (l ++ s.prf)).2) rfl h1
    exact ⟨h.now.tell q2 q3 (fun vals hs ht => (next_sound hlp hg.cons (hsl vals hs) ht).2 h1), h.past, h.prf⟩
  · rw [if_neg h1] at e
    by_cases h2 : 0 ≤ (nextF s.told (l ++ s.prf)).1
    · rw [if_pos h2] at e
      cases hd : s.decs.getLast? with
      | none => rw [hd] at e; cases e
      | some d =>
        rw [hd] at e
        by_cases h3 : s.prf.length + 1 = 2000
        · simp only [if_pos h3] at e; cases e
        · simp only [if_neg h3] at e
          injection e with e
          subst e
          have hlast : s.decs[s.decs.length - 1]? = some d := by rw [← List.getLast?_eq_getElem?]; exact hd
          have hp := h.past _ _ hlast
          rw [← List.dropLast_eq_take] at hp
          refine ⟨hp, fun k d' hk => ?_, fun vals hs => satL_append (h.prf vals hs) (fun c hc => ?_)⟩
          · have hk' : s.decs.dropLast[k]? = some d' := hk
            rw [List.getElem?_dropLast] at hk'
            split at hk'
            · rename_i hlt
              have := h.past k d' hk'
              rw [show (s.decs.dropLast).take k = s.decs.take k by rw [List.dropLast_eq_take, List.take_take, Nat.min_eq_left (by omega)]]
              exact this
            · cases hk'
          · rw [List.mem_singleton] at hc
            subst hc
            by_cases hall : DecsHold vals s.decs
            · exfalso
              exact absurd ((next_sound hlp hg.cons (hsl vals hs) (h.now.imp vals hs hall)).1 h2) h1
            · have : ∃ d ∈ s.decs, litH vals d.1 ≠ true := Classical.byContradiction fun hn => hall fun d hd => Classical.byContradiction fun hne => hn ⟨d, hd, hne⟩
              obtain ⟨d', hd', hne⟩ := this
              refine ⟨-d'.1, List.mem_map.2 ⟨d', hd', rfl⟩, ?_⟩
              rw [litH_neg' (by have := h.now.pos d' hd'; omega)]
              simpa using hne
    · rw [if_neg h2] at e
      by_cases h3 : leastF v s.told < 0
      · rw [if_pos h3] at e; cases e
      · rw [if_neg h3] at e
        injection e with e
        subst e
        rcases least_is (v := v) (told := s.told) with ⟨h4, _⟩ | ⟨k, h4, hk, h5, h6⟩
        · omega
        · rw [h4]
          have hn := h.now
          refine ⟨⟨fun vals hs hd => ?_, fun x hx hneg vals hs hd => ?_, fun d hd u hu0 hu1 => ?_, fun d hd => ?_, fun d hd => ?_⟩, fun j d hj => ?_, h.prf⟩
          · exact sat_tell (hn.imp vals hs fun d h => hd d (List.mem_append.2 (Or.inl h))) (hd ((k : Int) + 1, s.told) (List.mem_append.2 (Or.inr List.mem_cons_self)))
          · have hx' : x ∈ s.told ++ [(k : Int) + 1] := hx
            simp only [List.mem_append, List.mem_singleton] at hx'
            rcases hx' with hx' | hx'
            · exact hn.first x hx' hneg vals hs fun d h hlt => hd d (List.mem_append.2 (Or.inl h)) hlt
            · omega
          · have hd' : d ∈ s.decs ++ [((k : Int) + 1, s.told)] := hd
            show u ∈ s.told ++ [(k : Int) + 1] ∨ -u ∈ s.told ++ [(k : Int) + 1]
            simp only [List.mem_append, List.mem_singleton] at hd' ⊢
            rcases hd' with hd' | hd'
            · rcases hn.low d hd' u hu0 hu1 with h | h
              · exact Or.inl (Or.inl h)
              · exact Or.inr (Or.inl h)
            · subst hd'
              by_cases e : u = (k : Int) + 1
              · exact Or.inl (Or.inr e)
              · have hu1' : u ≤ (k : Int) + 1 := hu1
                have := h6 (u.toNat - 1) (by omega)
                have h7 : ¬ (((u.toNat - 1 : Nat) : Int) + 1 ∉ s.told ∧ -(((u.toNat - 1 : Nat) : Int) + 1) ∉ s.told) := fun h => this (tv_zero.2 h)
                rw [show ((u.toNat - 1 : Nat) : Int) + 1 = u by omega] at h7
                by_cases h8 : u ∈ s.told
                · exact Or.inl (Or.inl h8)
                · exact Or.inr (Or.inl (Classical.byContradiction fun h9 => h7 ⟨h8, h9⟩))
          · have hd' : d ∈ s.decs ++ [((k : Int) + 1, s.told)] := hd
            show d.1 ∈ s.told ++ [(k : Int) + 1]
            simp only [List.mem_append, List.mem_singleton] at hd' ⊢
            rcases hd' with hd' | hd'
            · exact Or.inl (hn.mem d hd')
            · exact Or.inr (by rw [hd'])
          · have hd' : d ∈ s.decs ++ [((k : Int) + 1, s.told)] := hd
            simp only [List.mem_append, List.mem_singleton] at hd'
            rcases hd' with hd' | hd'
            · exact hn.pos d hd'
            · rw [hd']; show (0 : Int) < (k : Int) + 1; omega
          · have hj' : (s.decs ++ [((k : Int) + 1, s.told)])[j]? = some d := hj
            show Inv l ((s.decs ++ [((k : Int) + 1, s.told)]).take j) d.2
            rw [List.getElem?_append] at hj'
            split at hj'
            · rename_i hlt
              rw [List.take_append_of_le_length (by omega)]
              exact h.past j d hj'
            · rename_i hge
              have hjl : j - s.decs.length = 0 := by
                rcases Nat.eq_zero_or_pos (j - s.decs.length) with h | h
                · exact h
                · rw [List.getElem?_eq_none (by simp; omega)] at hj'; cases hj'
              rw [hjl] at hj'
              simp at hj'
              subst hj'
              have : j = s.decs.length := by omega
              rw [this, List.take_append_of_le_length (Nat.le_refl _), List.take_length]
              exact hn

/-- What comes of it. -/
theorem run_inv {v : Nat} {l : List (List Int)} (hv : v ≤ 24) (hl : LitsL v l) {s : St} {r : Res} (hr : Run v l s r) : Good v s → InvS l s →
    (∀ p, r = .unsat p → ∀ vals, ¬ SatL vals l) ∧ (∀ t, r = .sat t → ∃ ds, Inv l ds t ∧ Lits v t ∧ Cons t ∧ (∀ i, i < v → tv t i ≠ 0) ∧ ∀ c ∈ l, ∃ x ∈ c, x ∈ t) := by
  induction hr with
  | go h _ ih => intro hg hi; exact ih (step_good hv hl hg h).1 (step_inv hl hg hi h)
  | done h =>
    rename_i s r
    intro hg hi
    have hlp := litsL_append hl hg.litsP
    unfold stepF at h
    by_cases h1 : (nextF s.told (l ++ s.prf)).2 ≠ 0
    · rw [if_pos h1] at h; cases h
    · rw [if_neg h1] at h
      by_cases h2 : 0 ≤ (nextF s.told (l ++ s.prf)).1
      · rw [if_pos h2] at h
        cases hd : s.decs.getLast? with
        | none =>
          rw [hd] at h
          injection h with h
          subst h
          have hd0 : s.decs = [] := List.getLast?_eq_none_iff.1 hd
          refine ⟨fun p _ vals hs => ?_, (fun t h => by cases h)⟩
          exact absurd ((next_sound hlp hg.cons (satL_append hs (hi.prf vals hs)) (hi.now.imp vals hs (fun d hd => by rw [hd0] at hd; cases hd))).1 h2) h1
        | some d =>
          rw [hd] at h
          by_cases h3 : s.prf.length + 1 = 2000
          · simp only [if_pos h3] at h
            injection h with h
            subst h
            exact ⟨(fun p h => by cases h), (fun t h => by cases h)⟩
          · simp only [if_neg h3] at h; cases h
      · rw [if_neg h2] at h
        by_cases h3 : leastF v s.told < 0
        · rw [if_pos h3] at h
          injection h with h
          subst h
          refine ⟨(fun p h => by cases h), fun t h => ?_⟩
          cases h
          rcases least_is (v := v) (told := s.told) with ⟨_, h4⟩ | ⟨k, h4, _⟩
          · refine ⟨s.decs, hi.now, hg.lits, hg.cons, h4, fun c hc => ?_⟩
            have hn := next_is (l := l ++ s.prf) hg.cons
            generalize nextF s.told (l ++ s.prf) = r at *
            cases hn with
            | none h5 =>
              rcases h5 c (List.mem_append.2 (Or.inl hc)) with h6 | ⟨x, hx, _, _, _, n1, n2, _⟩
              · exact h6
              · exfalso
                have hb := litB_iff.1 (hl c hc x hx)
                by_cases hp : 0 < x
                · have := h4 (x.toNat - 1) (by omega)
                  exact this (tv_zero.2 (by rw [show ((x.toNat - 1 : Nat) : Int) + 1 = x by omega]; exact ⟨n1, n2⟩))
                · have := h4 ((-x).toNat - 1) (by omega)
                  exact this (tv_zero.2 (by rw [show (((-x).toNat - 1 : Nat) : Int) + 1 = -x by omega, Int.neg_neg]; exact ⟨n2, n1⟩))
            | bad => exact absurd (Int.natCast_nonneg _) h2
            | one => exact absurd (Int.natCast_nonneg _) h2
          · omega
        · rw [if_neg h3] at h; cases h

theorem numF_sat {v : Nat} {t : List Int} (hl : Lits v t) (hc : Cons t) (hv : v ≤ 24) : Sat (numF t 24) t := fun x hx => by
  have hb := litB_iff.1 (hl x hx)
  unfold litH
  by_cases hp : 0 < x
  · rw [if_pos hp, numF_bit]
    have : tv t (x.toNat - 1) = 1 := by unfold tv; rw [if_pos (by rw [show ((x.toNat - 1 : Nat) : Int) + 1 = x by omega]; exact hx)]
    rw [this]; simp; omega
  · rw [if_neg hp, numF_bit]
    have : tv t ((-x).toNat - 1) = -1 := by
      unfold tv
      rw [show (((-x).toNat - 1 : Nat) : Int) + 1 = -x by omega, Int.neg_neg, if_neg (hc x hx), if_pos hx]
    rw [this]; simp
theorem numF_stop {v : Nat} {t : List Int} (hl : Lits v t) : ∀ k, numF t (v + k) = numF t v
  | 0 => rfl
  | k + 1 => by
    have h := numF_stop hl k
    show numF t (v + k + 1) = _
    have hn : ¬ 0 < tv t (v + k) := fun hp => by
     have : (((v + k : Nat) : Int) + 1) ∈ t := by
      unfold tv at hp
      split at hp
      · assumption
      · split at hp <;> omega
     have := litB_iff.1 (hl _ this)
     omega
    have e : numF t (v + k + 1) = numF t (v + k) := if_neg hn
    rw [e]; exact h
theorem numF_small {v : Nat} {t : List Int} (hl : Lits v t) (hv : v ≤ 24) : numF t 24 < 2 ^ v := by
  have := numF_stop hl (24 - v)
  rw [show v + (24 - v) = 24 by omega] at this
  rw [this]
  exact numF_lt t v

/-- No values of which all hold come ahead. -/
theorem not_ahead {v : Nat} {l : List (List Int)} (hv : v ≤ 24) {t : List Int} {ds : List (Int × List Int)} (hi : Inv l ds t) (hl : Lits v t) (hc : Cons t) (hall : ∀ i, i < v → tv t i ≠ 0) {vals : Nat} (hs : SatL vals l) {i : Nat} (hiv : i < v) (hsame : ∀ j, j < i → vals.testBit j = (numF t 24).testBit j) (h1 : vals.testBit i = true) (h0 : (numF t 24).testBit i = false) : False := by
  rw [numF_bit] at h0
  have htv : ¬ 0 < tv t i := by
    intro h
    simp [h] at h0
    omega
  have hneg : -((i : Int) + 1) ∈ t := by
    have h2 := hall i hiv
    unfold tv at htv h2
    split at htv
    · omega
    · split at htv
      · assumption
      · rename_i q1 q2
        rw [if_neg q1, if_neg q2] at h2
        exact absurd rfl h2
  have := hi.first _ hneg (by omega) vals hs (fun d hd hlt => by
    have hp := hi.pos d hd
    have hm := hi.mem d hd
    have hj := hsame (d.1.toNat - 1) (by omega)
    have hsat := numF_sat hl hc hv d.1 hm
    unfold litH at hsat ⊢
    rw [if_pos hp] at hsat ⊢
    rw [hj]; exact hsat)
  unfold litH at this
  rw [if_neg (by omega), show (- -((i : Int) + 1)).toNat - 1 = i by omega, h1] at this
  cases this
end Go.Proofs.YtcmmoinkhodjfabDoor
