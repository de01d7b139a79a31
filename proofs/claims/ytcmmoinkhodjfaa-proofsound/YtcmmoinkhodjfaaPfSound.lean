/- What is shown is so; what the search tells is shown. Plain. -/
import Derived.Test.YtcmmoinkhodjfaaClMath
import Derived.Test.YtcmmoinkhodjfaaPfConf
namespace Go.Proofs.Ytcmmoinkhodjfaa
open Go.RowKit Go.Deep

theorem satL_app {vals : Nat} {l m : List (List Int)} (h1 : SatL vals l) (h2 : SatL vals m) : SatL vals (l ++ m) := fun c hc => by
  rcases List.mem_append.1 hc with h | h
  · exact h1 c h
  · exact h2 c h
theorem conf_sound {v : Int} {l : List (List Int)} (hl : LitsL v l) {told : List Int} (h : Conf l told) {vals : Nat} (hs : SatL vals l) (ht : Sat vals told) : False := by
  induction h with
  | bad hc h =>
    obtain ⟨x, hx, hh⟩ := hs _ hc
    have := ht _ (h x hx)
    rw [litH_neg' (litB_iff.1 (hl _ hc x hx)).1, hh] at this
    cases this
  | unit hc hx h _ ih =>
    rename_i told c x _
    obtain ⟨y, hy, hh⟩ := hs _ hc
    by_cases e : y = x
    · subst e
      exact ih fun z hz => by
        rcases List.mem_cons.1 hz with rfl | hz
        · exact hh
        · exact ht z hz
    · have := ht _ (h y hy e)
      rw [litH_neg' (litB_iff.1 (hl _ hc y hy)).1, hh] at this
      cases this

theorem take_snoc {l : List (List Int)} {j : Nat} (h : j < l.length) : l.take (j + 1) = l.take j ++ [l.getD j []] := by
  rw [List.take_add_one, List.getElem?_eq_getElem h, List.getD_eq_getElem?_getD, List.getElem?_eq_getElem h]; rfl
theorem litsL_take {v : Int} {l pr : List (List Int)} (hl : LitsL v l) {k : Nat} (hk : k ≤ pr.length) (h : ∀ j, j < k → Lits v (pr.getD j [])) : LitsL v (l ++ pr.take k) := by
  refine litsL_append hl fun c hc => ?_
  obtain ⟨j, hj, rfl⟩ := List.getElem_of_mem hc
  rw [List.length_take] at hj
  have := h j (by omega)
  rw [List.getElem_take]
  rw [List.getD_eq_getElem?_getD, List.getElem?_eq_getElem (by omega)] at this
  exact this

theorem shows_sound {v : Int} {l pr : List (List Int)} {n : Int} (hl : LitsL v l) (h : ShowsR v l pr true n) {vals : Nat} (hs : SatL vals l) : False := by
  rcases h with ⟨i, _, _, h, _⟩ | ⟨h1, _, h2⟩
  · cases h
  · obtain ⟨hne, hlast⟩ := h2.1 rfl
    have all : ∀ k, k ≤ pr.length → SatL vals (l ++ pr.take k) := by
      intro k
      induction k with
      | zero => intro _; rw [List.take_zero, List.append_nil]; exact hs
      | succ k ih =>
        intro hk
        have hk' : k < pr.length := by omega
        have hsk := ih (by omega)
        rw [take_snoc hk', ← List.append_assoc]
        refine satL_app hsk fun c hc => ?_
        rw [List.mem_singleton] at hc
        subst hc
        obtain ⟨hlit, hb | hcf⟩ := h1 k hk'
        · obtain ⟨x, hx, hn⟩ := hb
          have h0 := (litB_iff.1 (hlit x hx)).1
          cases hh : litH vals x with
          | true => exact ⟨x, hx, hh⟩
          | false => exact ⟨-x, hn, by rw [litH_neg' h0, hh]; rfl⟩
        · refine Classical.byContradiction fun hno => ?_
          refine conf_sound (litsL_take hl (by omega) fun j hj => (h1 j (by omega)).1) hcf hsk fun x hx => ?_
          have hx' := mem_negC.1 hx
          have h0 := (litB_iff.1 (hlit _ hx')).1
          cases hh : litH vals x with
          | true => rfl
          | false => exact absurd ⟨-x, hx', by rw [litH_neg' (by omega), hh]; rfl⟩ hno
    have hpos := List.length_pos_iff.2 hne
    have := all pr.length (Nat.le_refl _) [] (List.mem_append_right _ (by
      rw [List.take_length, ← hlast]
      exact getD_mem (by omega)))
    obtain ⟨x, hx, _⟩ := this
    cases hx

/-! ### The search's proof -/
def Cut (l' : List (List Int)) (told ds : List Int) : Prop := ∀ E, Conf l' (told ++ E) → Conf l' (ds ++ E)
def CutA (l : List (List Int)) (told ds : List Int) : Prop := ∀ l', SubC l l' → Cut l' told ds
def fsts (ds : List (Int × List Int)) : List Int := ds.map (·.1)
structure InvC (v : Int) (l : List (List Int)) (s : St) : Prop where
  now : CutA (l ++ s.prf) s.told (fsts s.decs)
  past : ∀ k d, s.decs[k]? = some d → CutA (l ++ s.prf) d.2 (fsts (s.decs.take k))
  prf : ∀ j, j < s.prf.length → okAt v l s.prf j
theorem CutA.more {l l2 : List (List Int)} {told ds : List Int} (h : CutA l told ds) (hs : SubC l l2) : CutA l2 told ds := fun l' h' => h l' (hs.trans h')
theorem okAt_snoc {v : Int} {l pr : List (List Int)} {c : List Int} {j : Nat} (hj : j < pr.length) : okAt v l (pr ++ [c]) j ↔ okAt v l pr j := by
  unfold okAt
  rw [List.take_append_of_le_length (by omega), List.getD_eq_getElem?_getD, List.getElem?_append_left hj, List.getD_eq_getElem?_getD]
theorem negC_refC (ds : List (Int × List Int)) : negC (refC ds) = fsts ds := by
  unfold negC refC fsts
  rw [List.map_map]
  refine List.map_congr_left fun d _ => ?_
  show - -d.1 = d.1
  omega

theorem inv_tell {v : Nat} {l : List (List Int)} {s : St} (hg : Good v s) (h : InvC v l s) {i x : Int} (hn : nextF s.told (l ++ s.prf) = (i, x)) (hx : x ≠ 0) : InvC v l ⟨s.told ++ [x], s.decs, s.prf⟩ := by
  refine ⟨fun l' hs E hc => ?_, h.past, h.prf⟩
  have hi := next_is (l := l ++ s.prf) hg.cons
  rw [hn] at hi
  generalize hr : ((i, x) : Int × Int) = r at hi
  cases hi with
  | none _ => cases hr; exact absurd rfl hx
  | bad _ _ => cases hr; exact absurd rfl hx
  | one hk hxc h0 h1 hh =>
    cases hr
    refine h.now l' hs E ?_
    obtain ⟨c', hc', e⟩ := hs _ (getD_mem hk)
    refine .unit hc' ((e _).1 hxc) (fun y hy hne => List.mem_append_left _ (hh y ((e y).2 hy) hne).2) (hc.mono (SubC.refl _) fun z hz => ?_)
    rcases List.mem_append.1 hz with hz | hz
    · rcases List.mem_append.1 hz with hz | hz
      · exact List.mem_cons_of_mem _ (List.mem_append_left _ hz)
      · rw [List.mem_singleton] at hz; rw [hz]; exact List.mem_cons_self
    · exact List.mem_cons_of_mem _ (List.mem_append_right _ hz)
/-- Where a clause can't hold: the other sides of the decisions follow. -/
theorem inv_bad {v : Nat} {l : List (List Int)} {s : St} (hg : Good v s) (h : InvC v l s) {i : Int} (hn : nextF s.told (l ++ s.prf) = (i, 0)) (hi : 0 ≤ i) (hlp : LitsL v (l ++ s.prf)) : ∀ j, j < (s.prf ++ [refC s.decs]).length → okAt v l (s.prf ++ [refC s.decs]) j := by
  intro j hj
  rw [List.length_append, List.length_singleton] at hj
  by_cases hlt : j < s.prf.length
  · exact (okAt_snoc hlt).2 (h.prf j hlt)
  · obtain rfl : j = s.prf.length := by omega
    unfold okAt
    have e : (s.prf ++ [refC s.decs]).getD s.prf.length [] = refC s.decs := by simp [List.getD_eq_getElem?_getD]
    rw [e, List.take_left, negC_refC]
    refine ⟨refC_lits hg, Or.inr ?_⟩
    have := h.now _ (SubC.refl _) [] (by
      rw [List.append_nil]
      have hx := next_is (l := l ++ s.prf) hg.cons
      rw [hn] at hx
      generalize hr : ((i, 0) : Int × Int) = r at hx
      cases hx with
      | none _ => cases hr; omega
      | bad hk hh => exact .bad (getD_mem hk) fun x hx => (hh x hx).2
      | one hk hxc h0 h1 hh =>
        cases hr
        exact absurd rfl (litB_iff.1 (hlp _ (getD_mem hk) _ hxc)).1)
    rw [List.append_nil] at this
    exact this
theorem step_invC {v : Nat} {l : List (List Int)} (hl : LitsL v l) {s s' : St} (hg : Good v s) (h : InvC v l s) (e : stepF v l s = .inl s') : InvC v l s' := by
  have hlp := litsL_append hl hg.litsP
  unfold stepF at e
  by_cases h1 : (nextF s.told (l ++ s.prf)).2 ≠ 0
  · rw [if_pos h1] at e
    injection e with e
    subst e
    exact inv_tell hg h (i := (nextF s.told (l ++ s.prf)).1) rfl h1
  · rw [if_neg h1] at e
    have h10 : (nextF s.told (l ++ s.prf)).2 = 0 := Classical.not_not.1 h1
    by_cases h2 : 0 ≤ (nextF s.told (l ++ s.prf)).1
    · rw [if_pos h2] at e
      cases hd : s.decs.getLast? with
      | none => rw [hd] at e; cases e
      | some d =>
        rw [hd] at e
        by_cases h3 : s.prf.length + 1 = 2000
        · simp only [if_pos h3] at e; cases e
        · simp only [if_neg h3] at e
          injection e with e
          subst e
          have hne : s.decs ≠ [] := fun e => by rw [e] at hd; cases hd
          have hpos := List.length_pos_iff.2 hne
          have hlast : s.decs[s.decs.length - 1]? = some d := by rw [← List.getLast?_eq_getElem?]; exact hd
          have hsub : SubC (l ++ s.prf) (l ++ (s.prf ++ [refC s.decs])) := SubC.of_sub fun c hc => by
            rw [← List.append_assoc]; exact List.mem_append_left _ hc
          refine ⟨?_, fun k d' hk => ?_, inv_bad hg h (i := (nextF s.told (l ++ s.prf)).1) (Prod.ext rfl h10) h2 hlp⟩
          · have := (h.past _ _ hlast).more hsub
            rw [← List.dropLast_eq_take] at this
            exact this
          · have hk' := (List.getElem?_eq_some_iff.1 hk).1
            rw [List.length_dropLast] at hk'
            rw [List.dropLast_eq_take, List.getElem?_take, if_pos hk'] at hk
            have := (h.past k d' hk).more hsub
            show CutA _ _ (fsts (s.decs.dropLast.take k))
            rw [List.dropLast_eq_take, List.take_take, Nat.min_eq_left (by omega)]
            exact this
    · rw [if_neg h2] at e
      by_cases h3 : leastF v s.told < 0
      · rw [if_pos h3] at e; cases e
      · rw [if_neg h3] at e
        injection e with e
        subst e
        refine ⟨fun l' hs E hc => ?_, fun k d hk => ?_, h.prf⟩
        · have := h.now l' hs ([leastF v s.told + 1] ++ E) (by rw [← List.append_assoc]; exact hc)
          show Conf l' (fsts (s.decs ++ [(leastF v s.told + 1, s.told)]) ++ E)
          unfold fsts at *
          rw [List.map_append, List.append_assoc]
          exact this
        · by_cases hlt : k < s.decs.length
          · rw [List.getElem?_append_left hlt] at hk
            show CutA _ _ (fsts ((s.decs ++ _).take k))
            rw [List.take_append_of_le_length (by omega)]
            exact h.past k d hk
          · have hk' := (List.getElem?_eq_some_iff.1 hk).1
            rw [List.length_append, List.length_singleton] at hk'
            obtain rfl : k = s.decs.length := by omega
            rw [List.getElem?_append_right (Nat.le_refl _)] at hk
            simp at hk
            subst hk
            show CutA _ _ (fsts ((s.decs ++ _).take s.decs.length))
            rw [List.take_left]
            exact h.now
theorem run_shows {v : Nat} {l : List (List Int)} (hv : v ≤ 24) (hl : LitsL v l) {s : St} {r : Res} (hr : Run v l s r) : Good v s → InvC v l s → ∀ p, r = .unsat p → ShowsR v l p true p.length ∧ p.length < 5000 := by
  induction hr with
  | go h _ ih => intro hg hi; exact ih (step_good hv hl hg h).1 (step_invC hl hg hi h)
  | done h =>
    rename_i s r
    intro hg hi p hp
    subst hp
    have hlp := litsL_append hl hg.litsP
    unfold stepF at h
    by_cases h1 : (nextF s.told (l ++ s.prf)).2 ≠ 0
    · rw [if_pos h1] at h; cases h
    · rw [if_neg h1] at h
      have h10 : (nextF s.told (l ++ s.prf)).2 = 0 := Classical.not_not.1 h1
      by_cases h2 : 0 ≤ (nextF s.told (l ++ s.prf)).1
      · rw [if_pos h2] at h
        cases hd : s.decs.getLast? with
        | none =>
          rw [hd] at h
          injection h with h
          injection h with h
          subst h
          have hd0 : s.decs = [] := List.getLast?_eq_none_iff.1 hd
          refine ⟨Or.inr ⟨inv_bad hg hi (i := (nextF s.told (l ++ s.prf)).1) (Prod.ext rfl h10) h2 hlp, rfl, iff_of_true rfl ⟨by simp, ?_⟩⟩, by have := hg.pl; simp; omega⟩
          simp [List.getD_eq_getElem?_getD, hd0, refC]
        | some d =>
          rw [hd] at h
          by_cases h3 : s.prf.length + 1 = 2000
          · simp only [if_pos h3] at h; cases h
          · simp only [if_neg h3] at h; cases h
      · rw [if_neg h2] at h
        by_cases h3 : leastF v s.told < 0
        · rw [if_pos h3] at h; cases h
        · rw [if_neg h3] at h; cases h
theorem invC0 (v : Int) (l : List (List Int)) : InvC v l st0 := by
  refine ⟨fun l' _ E h => h, fun k d h => by simp [st0] at h, fun j hj => by simp [st0] at hj⟩
end Go.Proofs.Ytcmmoinkhodjfaa
