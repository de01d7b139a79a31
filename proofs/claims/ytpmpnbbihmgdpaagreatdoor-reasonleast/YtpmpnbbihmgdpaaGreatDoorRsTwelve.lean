/- Up to twelve variables, of which those of a name forbid one another, the search never comes to its lid: plain. -/
import Derived.Test.YtpmpnbbihmgdpaaGreatDoorClMath
import Derived.Test.YtpmpnbbihmgdpaaGreatDoorClNum
import Derived.Test.YtpmpnbbihmgdpaaGreatDoorClTold
import Derived.Test.YtpmpnbbihmgdpaaGreatDoorCtOfS
set_option maxRecDepth 100000
namespace Go.Proofs.YtpmpnbbihmgdpaaGreatDoor
section
open Go.RowKit Go.Deep
def DecsHold (vals : Nat) (ds : List (Int × List Int)) : Prop := ∀ d ∈ ds, litH vals d.1 = true
structure Inv (l : List (List Int)) (ds : List (Int × List Int)) (told : List Int) : Prop where
 imp : ∀ vals, SatL vals l -> DecsHold vals ds -> Sat vals told
 first : ∀ x ∈ told, x < 0 -> ∀ vals, SatL vals l -> (∀ d ∈ ds, d.1 < -x -> litH vals d.1 = true) -> litH vals x = true
 low : ∀ d ∈ ds, ∀ u, 0 < u -> u <= d.1 -> u ∈ told \/ -u ∈ told
 mem : ∀ d ∈ ds, d.1 ∈ told
 pos : ∀ d ∈ ds, 0 < d.1
structure InvS (l : List (List Int)) (s : St) : Prop where
 now : Inv l s.decs s.told
 past : ∀ k d, s.decs[k]? = some d -> Inv l (s.decs.take k) d.2
 prf : ∀ vals, SatL vals l -> SatL vals s.prf
theorem inv0 (l : List (List Int)) : InvS l st0 := by
 refine ⟨⟨(fun _ _ _ x hx => by cases hx), (fun x hx => by cases hx), (fun d hd => by cases hd), (fun d hd => by cases hd), (fun d hd => by cases hd)⟩, (fun k d h => by simp [st0] at h), (fun _ _ c hc => by cases hc)⟩
theorem satL_append {vals : Nat} {l m : List (List Int)} (h1 : SatL vals l) (h2 : SatL vals m) : SatL vals (l ++ m) := fun c hc => by
 rcases List.mem_append.1 hc with h | h
 ·exact h1 c h
 ·exact h2 c h
theorem Inv.tell {l : List (List Int)} {ds : List (Int × List Int)} {told : List Int} (h : Inv l ds told) {x : Int} (h0 : x ∉ told) (h1 : -x ∉ told) (hx : ∀ vals, SatL vals l -> Sat vals told -> litH vals x = true) : Inv l ds (told ++ [x]) := by
 refine ⟨fun vals hs hd => sat_tell (h.imp vals hs hd) (hx vals hs (h.imp vals hs hd)), fun y hy hneg vals hs hd => ?_, fun d hd u hu0 hu1 => ?_, fun d hd => List.mem_append.2 (Or.inl (h.mem d hd)), h.pos⟩
 ·simp only [List.mem_append, List.mem_singleton] at hy
  rcases hy with hy | hy
  ·exact h.first y hy hneg vals hs hd
  ·subst hy
   refine hx vals hs (h.imp vals hs fun d hdd => hd d hdd ?_)
   rcases Int.lt_or_le d.1 (-y) with hlt | hle
   ·exact hlt
   ·rcases h.low d hdd (-y) (by omega) hle with h2 | h2
    ·exact absurd h2 h1
    ·rw [Int.neg_neg] at h2; exact absurd h2 h0
 ·rcases h.low d hd u hu0 hu1 with h2 | h2
  ·exact Or.inl (List.mem_append.2 (Or.inl h2))
  ·exact Or.inr (List.mem_append.2 (Or.inl h2))
theorem step_inv {v : Nat} {l : List (List Int)} (hl : LitsL v l) {s s' : St} (hg : Good v s) (h : InvS l s) (e : stepF v l s = .inl s') : InvS l s' := by
 have hlp := litsL_append hl hg.litsP
 have hsl : ∀ vals, SatL vals l -> SatL vals (l ++ s.prf) := fun vals hs => satL_append hs (h.prf vals hs)
 unfold stepF at e
 by_cases h1 : (nextF s.told (l ++ s.prf)).2 ≠ 0
 ·rw [if_pos h1] at e
  injection e with e
  subst e
  obtain ⟨q1, q2, q3, q4, q5⟩ := next_step hlp hg.cons hg.lits (i := (nextF s.told (l ++ s.prf)).1) (x := (nextF s.told (l ++ s.prf)).2) rfl h1
  exact ⟨h.now.tell q2 q3 (fun vals hs ht => (next_sound hlp hg.cons (hsl vals hs) ht).2 h1), h.past, h.prf⟩
 ·rw [if_neg h1] at e
  by_cases h2 : 0 <= (nextF s.told (l ++ s.prf)).1
  ·rw [if_pos h2] at e
   cases hd : s.decs.getLast? with
   | none => rw [hd] at e; cases e
   | some d =>
    rw [hd] at e
    by_cases h3 : s.prf.length + 1 = 2000
    ·simp only [if_pos h3] at e; cases e
    ·simp only [if_neg h3] at e
     injection e with e
     subst e
     have hlast : s.decs[s.decs.length - 1]? = some d := by rw [<- List.getLast?_eq_getElem?]; exact hd
     have hp := h.past _ _ hlast
     rw [<- List.dropLast_eq_take] at hp
     refine ⟨hp, fun k d' hk => ?_, fun vals hs => satL_append (h.prf vals hs) (fun c hc => ?_)⟩
     ·have hk' : s.decs.dropLast[k]? = some d' := hk
      rw [List.getElem?_dropLast] at hk'
      split at hk'
      ·rename_i hlt
       have := h.past k d' hk'
       rw [show (s.decs.dropLast).take k = s.decs.take k by rw [List.dropLast_eq_take, List.take_take, Nat.min_eq_left (by omega)]]
       exact this
      ·cases hk'
     ·rw [List.mem_singleton] at hc
      subst hc
      by_cases hall : DecsHold vals s.decs
      ·exfalso
       exact absurd ((next_sound hlp hg.cons (hsl vals hs) (h.now.imp vals hs hall)).1 h2) h1
      ·have : ∃ d ∈ s.decs, litH vals d.1 ≠ true := Classical.byContradiction fun hn => hall fun d hd => Classical.byContradiction fun hne => hn ⟨d, hd, hne⟩
       obtain ⟨d', hd', hne⟩ := this
       refine ⟨-d'.1, List.mem_map.2 ⟨d', hd', rfl⟩, ?_⟩
       rw [litH_neg' (by have := h.now.pos d' hd'; omega)]
       simpa using hne
  ·rw [if_neg h2] at e
   by_cases h3 : leastF v s.told < 0
   ·rw [if_pos h3] at e; cases e
   ·rw [if_neg h3] at e
    injection e with e
    subst e
    rcases least_is (v := v) (told := s.told) with ⟨h4, _⟩ | ⟨k, h4, hk, h5, h6⟩
    ·omega
    ·rw [h4]
     have hn := h.now
     refine ⟨⟨fun vals hs hd => ?_, fun x hx hneg vals hs hd => ?_, fun d hd u hu0 hu1 => ?_, fun d hd => ?_, fun d hd => ?_⟩, fun j d hj => ?_, h.prf⟩
     ·exact sat_tell (hn.imp vals hs fun d h => hd d (List.mem_append.2 (Or.inl h))) (hd ((k : Int) + 1, s.told) (List.mem_append.2 (Or.inr List.mem_cons_self)))
     ·have hx' : x ∈ s.told ++ [(k : Int) + 1] := hx
      simp only [List.mem_append, List.mem_singleton] at hx'
      rcases hx' with hx' | hx'
      ·exact hn.first x hx' hneg vals hs fun d h hlt => hd d (List.mem_append.2 (Or.inl h)) hlt
      ·omega
     ·have hd' : d ∈ s.decs ++ [((k : Int) + 1, s.told)] := hd
      show u ∈ s.told ++ [(k : Int) + 1] \/ -u ∈ s.told ++ [(k : Int) + 1]
      simp only [List.mem_append, List.mem_singleton] at hd' ⊢
      rcases hd' with hd' | hd'
      ·rcases hn.low d hd' u hu0 hu1 with h | h
       ·exact Or.inl (Or.inl h)
       ·exact Or.inr (Or.inl h)
      ·subst hd'
       by_cases e : u = (k : Int) + 1
       ·exact Or.inl (Or.inr e)
       ·have hu1' : u <= (k : Int) + 1 := hu1
        have := h6 (u.toNat - 1) (by omega)
        have h7 : ¬ (((u.toNat - 1 : Nat) : Int) + 1 ∉ s.told /\ -(((u.toNat - 1 : Nat) : Int) + 1) ∉ s.told) := fun h => this (tv_zero.2 h)
        rw [show ((u.toNat - 1 : Nat) : Int) + 1 = u by omega] at h7
        by_cases h8 : u ∈ s.told
        ·exact Or.inl (Or.inl h8)
        ·exact Or.inr (Or.inl (Classical.byContradiction fun h9 => h7 ⟨h8, h9⟩))
     ·have hd' : d ∈ s.decs ++ [((k : Int) + 1, s.told)] := hd
      show d.1 ∈ s.told ++ [(k : Int) + 1]
      simp only [List.mem_append, List.mem_singleton] at hd' ⊢
      rcases hd' with hd' | hd'
      ·exact Or.inl (hn.mem d hd')
      ·exact Or.inr (by rw [hd'])
     ·have hd' : d ∈ s.decs ++ [((k : Int) + 1, s.told)] := hd
      simp only [List.mem_append, List.mem_singleton] at hd'
      rcases hd' with hd' | hd'
      ·exact hn.pos d hd'
      ·rw [hd']; show (0 : Int) < (k : Int) + 1; omega
     ·have hj' : (s.decs ++ [((k : Int) + 1, s.told)])[j]? = some d := hj
      show Inv l ((s.decs ++ [((k : Int) + 1, s.told)]).take j) d.2
      rw [List.getElem?_append] at hj'
      split at hj'
      ·rename_i hlt
       rw [List.take_append_of_le_length (by omega)]
       exact h.past j d hj'
      ·rename_i hge
       have hjl : j - s.decs.length = 0 := by
        rcases Nat.eq_zero_or_pos (j - s.decs.length) with h | h
        ·exact h
        ·rw [List.getElem?_eq_none (by simp; omega)] at hj'; cases hj'
       rw [hjl] at hj'
       simp at hj'
       subst hj'
       have : j = s.decs.length := by omega
       rw [this, List.take_append_of_le_length (Nat.le_refl _), List.take_length]
       exact hn
theorem run_inv {v : Nat} {l : List (List Int)} (hv : v <= 24) (hl : LitsL v l) {s : St} {r : Res} (hr : Run v l s r) : Good v s -> InvS l s ->
  (∀ p, r = .unsat p -> ∀ vals, ¬ SatL vals l) /\ (∀ t, r = .sat t -> ∃ ds, Inv l ds t /\ Lits v t /\ Cons t /\ (∀ i, i < v -> tv t i ≠ 0) /\ ∀ c ∈ l, ∃ x ∈ c, x ∈ t) := by
 induction hr with
 | go h _ ih => intro hg hi; exact ih (step_good hv hl hg h).1 (step_inv hl hg hi h)
 | done h =>
  rename_i s r
  intro hg hi
  have hlp := litsL_append hl hg.litsP
  unfold stepF at h
  by_cases h1 : (nextF s.told (l ++ s.prf)).2 ≠ 0
  ·rw [if_pos h1] at h; cases h
  ·rw [if_neg h1] at h
   by_cases h2 : 0 <= (nextF s.told (l ++ s.prf)).1
   ·rw [if_pos h2] at h
    cases hd : s.decs.getLast? with
    | none =>
     rw [hd] at h
     injection h with h
     subst h
     have hd0 : s.decs = [] := List.getLast?_eq_none_iff.1 hd
     refine ⟨fun p _ vals hs => ?_, (fun t h => by cases h)⟩
     exact absurd ((next_sound hlp hg.cons (satL_append hs (hi.prf vals hs)) (hi.now.imp vals hs (fun d hd => by rw [hd0] at hd; cases hd))).1 h2) h1
    | some d =>
     rw [hd] at h
     by_cases h3 : s.prf.length + 1 = 2000
     ·simp only [if_pos h3] at h
      injection h with h
      subst h
      exact ⟨(fun p h => by cases h), (fun t h => by cases h)⟩
     ·simp only [if_neg h3] at h; cases h
   ·rw [if_neg h2] at h
    by_cases h3 : leastF v s.told < 0
    ·rw [if_pos h3] at h
     injection h with h
     subst h
     refine ⟨(fun p h => by cases h), fun t h => ?_⟩
     cases h
     rcases least_is (v := v) (told := s.told) with ⟨_, h4⟩ | ⟨k, h4, _⟩
     ·refine ⟨s.decs, hi.now, hg.lits, hg.cons, h4, fun c hc => ?_⟩
      have hn := next_is (l := l ++ s.prf) hg.cons
      generalize nextF s.told (l ++ s.prf) = r at *
      cases hn with
      | none h5 =>
       rcases h5 c (List.mem_append.2 (Or.inl hc)) with h6 | ⟨x, hx, _, _, _, n1, n2, _⟩
       ·exact h6
       ·exfalso
        have hb := litB_iff.1 (hl c hc x hx)
        by_cases hp : 0 < x
        ·have := h4 (x.toNat - 1) (by omega)
         exact this (tv_zero.2 (by rw [show ((x.toNat - 1 : Nat) : Int) + 1 = x by omega]; exact ⟨n1, n2⟩))
        ·have := h4 ((-x).toNat - 1) (by omega)
         exact this (tv_zero.2 (by rw [show (((-x).toNat - 1 : Nat) : Int) + 1 = -x by omega, Int.neg_neg]; exact ⟨n2, n1⟩))
      | bad => exact absurd (Int.natCast_nonneg _) h2
      | one => exact absurd (Int.natCast_nonneg _) h2
     ·omega
    ·rw [if_neg h3] at h; cases h
theorem numF_sat {v : Nat} {t : List Int} (hl : Lits v t) (hc : Cons t) (hv : v <= 24) : Sat (numF t 24) t := fun x hx => by
 have hb := litB_iff.1 (hl x hx)
 unfold litH
 by_cases hp : 0 < x
 ·rw [if_pos hp, numF_bit]
  have : tv t (x.toNat - 1) = 1 := by unfold tv; rw [if_pos (by rw [show ((x.toNat - 1 : Nat) : Int) + 1 = x by omega]; exact hx)]
  rw [this]; simp; omega
 ·rw [if_neg hp, numF_bit]
  have : tv t ((-x).toNat - 1) = -1 := by
   unfold tv
   rw [show (((-x).toNat - 1 : Nat) : Int) + 1 = -x by omega, Int.neg_neg, if_neg (hc x hx), if_pos hx]
  rw [this]; simp
end
section
open Go.RowKit Go.Deep
def Down (c : List Int) : Prop := c.Pairwise (fun x y => y < x)
theorem nodup_le {α : Type} [BEq α] [LawfulBEq α] : ∀ {l m : List α}, l.Nodup -> (∀ x ∈ l, x ∈ m) -> l.length <= m.length
 | [], _, _, _ => Nat.zero_le _
 | a :: l, m, hn, hs => by
  have hm := hs a (by simp)
  have hn' := List.nodup_cons.1 hn
  have h1 := nodup_le (l := l) (m := m.erase a) hn'.2 (fun x hx =>
   (List.mem_erase_of_ne (fun e : x = a => hn'.1 (e ▸ hx))).2 (hs x (by simp [hx])))
  rw [List.length_erase_of_mem hm] at h1
  have := List.length_pos_of_mem hm
  simp only [List.length_cons]
  omega
def Still (l : List (List Int)) (t : List Int) : Prop :=
 ∀ c ∈ l, (∃ x ∈ c, x ∈ t) \/ ∃ x ∈ c, ∃ y ∈ c, x ≠ y /\ x ∉ t /\ -x ∉ t /\ y ∉ t /\ -y ∉ t
def Quiet (l : List (List Int)) (ds : List (Int × List Int)) : Prop :=
 ∀ (k : Nat) (d : Int × List Int), ds[k]? = some d -> Still l d.2 /\ d.1 ∉ d.2 /\ -d.1 ∉ d.2
structure Dist (F : List (List Int)) (s : St) : Prop where
 nodup : s.prf.Nodup
 pre : ∀ k, k < s.decs.length -> refC (s.decs.take (k + 1)) ∉ s.prf
 all : ∀ c ∈ s.prf, c ∈ F
theorem dist0 (F : List (List Int)) : Dist F st0 := ⟨.nil, (fun k hk => by simp [st0] at hk), (fun c hc => by cases hc)⟩
theorem quiet0 (l : List (List Int)) : Quiet l st0.decs := fun k d h => by simp [st0] at h
theorem still_of {t : List Int} {l : List (List Int)} (hc : Cons t) (h1 : ¬ (nextF t l).2 ≠ 0) (h2 : ¬ 0 <= (nextF t l).1) : Still l t := by
 have h := next_is (l := l) hc
 generalize nextF t l = r at *
 cases h with
 | none h => exact h
 | bad hk h => exact absurd (Int.natCast_nonneg _) h2
 | one hk _ _ _ _ => exact absurd (Int.natCast_nonneg _) h2
theorem fresh_of {s : St} (hc : Cons s.told) {P : List (List Int)} (hs : Still P s.told) (hm : ∀ d ∈ s.decs, d.1 ∈ s.told) {x : Int} (h1 : -x ∉ s.told) (T : List Int) : refC (s.decs ++ [(x, T)]) ∉ P := by
 intro hP
 have e : ∀ y ∈ refC (s.decs ++ [(x, T)]), y = -x \/ -y ∈ s.told := by
  intro y hy
  unfold refC at hy
  obtain ⟨d, hd, rfl⟩ := List.mem_map.1 hy
  rcases List.mem_append.1 hd with h | h
  ·exact Or.inr (by rw [Int.neg_neg]; exact hm d h)
  ·rw [List.mem_singleton] at h
   subst h
   exact Or.inl rfl
 rcases hs _ hP with ⟨y, hy, ht⟩ | ⟨y, hy, z, hz, hne, hy0, hy1, hz0, hz1⟩
 ·rcases e y hy with rfl | h
  ·exact h1 ht
  ·exact hc y ht h
 ·rcases e y hy with rfl | h
  ·rcases e z hz with rfl | h
   ·exact hne rfl
   ·exact hz1 h
  ·exact hy1 h
theorem refC_lenN (ds : List (Int × List Int)) : (refC ds).length = ds.length := by simp [refC]
theorem quiet_down {l : List (List Int)} {s : St} (hi : InvS l s) (hq : Quiet l s.decs) : Down (refC s.decs) := by
 unfold Down refC
 rw [List.pairwise_map, List.pairwise_iff_getElem]
 intro i j hi' hj' hij
 have ej : s.decs[j]? = some s.decs[j] := List.getElem?_eq_getElem hj'
 have hp := hi.past j _ ej
 have hn := (hq j _ ej).2
 have hmi : s.decs[i] ∈ s.decs.take j := by
  rw [List.mem_take_iff_getElem]
  exact ⟨i, by omega, rfl⟩
 have hpos := hi.now.pos s.decs[j] (List.getElem_mem hj')
 rcases Int.lt_or_le s.decs[i].1 s.decs[j].1 with h | h
 ·omega
 ·rcases hp.low _ hmi s.decs[j].1 hpos h with h2 | h2
  ·exact absurd h2 hn.1
  ·exact absurd h2 hn.2
theorem quiet_two {l : List (List Int)} {s : St} (hi : InvS l s) (hc : ∀ (k : Nat) (d : Int × List Int), s.decs[k]? = some d -> Cons d.2) (hq : Quiet l s.decs) {i j : Nat} (hij : i < j) (hj : j < s.decs.length) {c : List Int} (hcl : c ∈ l) (he : ∀ x ∈ c, x = -(s.decs[i]'(by omega)).1 \/ x = -(s.decs[j]).1) : False := by
 have ej : s.decs[j]? = some s.decs[j] := List.getElem?_eq_getElem hj
 have hp := hi.past j _ ej
 obtain ⟨hst, h0, h1⟩ := hq j _ ej
 have hmi : s.decs[i] ∈ s.decs.take j := by
  rw [List.mem_take_iff_getElem]
  exact ⟨i, by omega, rfl⟩
 have hm := hp.mem _ hmi
 rcases hst c hcl with ⟨y, hy, ht⟩ | ⟨y, hy, z, hz, hne, hy0, hy1, hz0, hz1⟩
 ·rcases he y hy with rfl | rfl
  ·exact hc j _ ej _ hm ht
  ·exact h1 ht
 ·rcases he y hy with rfl | rfl
  ·exact hy1 (by rw [Int.neg_neg]; exact hm)
  ·rcases he z hz with rfl | rfl
   ·exact hz1 (by rw [Int.neg_neg]; exact hm)
   ·exact hne rfl
theorem step_dist {v : Nat} {l F : List (List Int)} {s s' : St} (hg : Good v s) (hi : InvS l s) (hq : Quiet l s.decs) (hd : Dist F s) (hin : refC s.decs ∈ F) (e : stepF v l s = .inl s') : Quiet l s'.decs /\ Dist F s' := by
 unfold stepF at e
 by_cases h1 : (nextF s.told (l ++ s.prf)).2 ≠ 0
 ·rw [if_pos h1] at e
  injection e with e
  subst e
  exact ⟨hq, hd.nodup, hd.pre, hd.all⟩
 ·rw [if_neg h1] at e
  by_cases h2 : 0 <= (nextF s.told (l ++ s.prf)).1
  ·rw [if_pos h2] at e
   cases hl : s.decs.getLast? with
   | none => rw [hl] at e; cases e
   | some d =>
    rw [hl] at e
    by_cases h3 : s.prf.length + 1 = 2000
    ·simp only [if_pos h3] at e; cases e
    ·simp only [if_neg h3] at e
     injection e with e
     subst e
     have hne : s.decs ≠ [] := fun e => by rw [e] at hl; cases hl
     have hpos := List.length_pos_iff.2 hne
     have hnew : refC s.decs ∉ s.prf := by
      have := hd.pre (s.decs.length - 1) (by omega)
      rwa [List.take_of_length_le (by omega)] at this
     refine ⟨fun k d' hk => ?_, ?_, fun k hk => ?_, fun c hc => ?_⟩
     ·have hk' : s.decs.dropLast[k]? = some d' := hk
      rw [List.getElem?_dropLast] at hk'
      split at hk'
      ·exact hq k d' hk'
      ·cases hk'
     ·show (s.prf ++ [refC s.decs]).Nodup
      rw [List.nodup_append]
      refine ⟨hd.nodup, by simp, fun a ha b hb => ?_⟩
      rw [List.mem_singleton] at hb
      subst hb
      exact fun e => hnew (e ▸ ha)
     ·have hk' : k < s.decs.dropLast.length := hk
      rw [List.length_dropLast] at hk'
      show refC (s.decs.dropLast.take (k + 1)) ∉ s.prf ++ [refC s.decs]
      rw [List.dropLast_eq_take, List.take_take, Nat.min_eq_left (by omega), List.mem_append]
      rintro (h | h)
      ·exact hd.pre k (by omega) h
      ·rw [List.mem_singleton] at h
       have := congrArg List.length h
       rw [refC_lenN, refC_lenN, List.length_take] at this
       omega
     ·have hc' : c ∈ s.prf ++ [refC s.decs] := hc
      rcases List.mem_append.1 hc' with h | h
      ·exact hd.all c h
      ·rw [List.mem_singleton] at h
       subst h
       exact hin
  ·rw [if_neg h2] at e
   by_cases h3 : leastF v s.told < 0
   ·rw [if_pos h3] at e; cases e
   ·rw [if_neg h3] at e
    injection e with e
    subst e
    have hst := still_of hg.cons h1 h2
    rcases least_is (v := v) (told := s.told) with ⟨h4, _⟩ | ⟨k, h4, hk, h5, _⟩
    ·omega
    ·obtain ⟨n1, n2⟩ := tv_zero.1 h5
     rw [h4]
     refine ⟨fun j d hj => ?_, hd.nodup, fun j hj => ?_, hd.all⟩
     ·have hj' : (s.decs ++ [((k : Int) + 1, s.told)])[j]? = some d := hj
      rw [List.getElem?_append] at hj'
      split at hj'
      ·exact hq j d hj'
      ·rename_i hge
       have hjl : j - s.decs.length = 0 := by
        rcases Nat.eq_zero_or_pos (j - s.decs.length) with h | h
        ·exact h
        ·rw [List.getElem?_eq_none (by simp; omega)] at hj'; cases hj'
       rw [hjl] at hj'
       simp at hj'
       subst hj'
       exact ⟨fun c hc => hst c (List.mem_append.2 (Or.inl hc)), n1, n2⟩
     ·have hj' : j < (s.decs ++ [((k : Int) + 1, s.told)]).length := hj
      simp only [List.length_append, List.length_singleton] at hj'
      show refC ((s.decs ++ [((k : Int) + 1, s.told)]).take (j + 1)) ∉ s.prf
      by_cases hjl : j = s.decs.length
      ·rw [List.take_of_length_le (by simp; omega)]
       exact fresh_of hg.cons (fun c hc => hst c (List.mem_append.2 (Or.inr hc))) hi.now.mem n2 s.told
      ·rw [List.take_append_of_le_length (by omega)]
       exact hd.pre j (by omega)
theorem run_not_limit {v : Nat} {l F : List (List Int)} (hv : v <= 24) (hl : LitsL v l) (hF : F.length < 2000) (hin : ∀ s, Good v s -> InvS l s -> Quiet l s.decs -> refC s.decs ∈ F) {s : St} {r : Res} (hr : Run v l s r) : Good v s -> InvS l s -> Quiet l s.decs -> Dist F s -> r ≠ .limit := by
 induction hr with
 | @done s r h =>
  intro hg hi hq hd hlim
  subst hlim
  unfold stepF at h
  by_cases h1 : (nextF s.told (l ++ s.prf)).2 ≠ 0
  ·rw [if_pos h1] at h; cases h
  ·rw [if_neg h1] at h
   by_cases h2 : 0 <= (nextF s.told (l ++ s.prf)).1
   ·rw [if_pos h2] at h
    cases hlast : s.decs.getLast? with
    | none => rw [hlast] at h; cases h
    | some d =>
     rw [hlast] at h
     by_cases h3 : s.prf.length + 1 = 2000
     ·have := nodup_le hd.nodup hd.all
      have hlt := hd.nodup
      have hne : s.decs ≠ [] := fun e => by rw [e] at hlast; cases hlast
      have hpos := List.length_pos_iff.2 hne
      have hnew : refC s.decs ∉ s.prf := by
       have := hd.pre (s.decs.length - 1) (by omega)
       rwa [List.take_of_length_le (by omega)] at this
      have h4 := nodup_le (l := refC s.decs :: s.prf) (m := F) (List.nodup_cons.2 ⟨hnew, hd.nodup⟩) (fun c hc => by
       rcases List.mem_cons.1 hc with rfl | h
       ·exact hin s hg hi hq
       ·exact hd.all c h)
      simp only [List.length_cons] at h4
      omega
     ·simp only [if_neg h3] at h; cases h
   ·rw [if_neg h2] at h
    by_cases h3 : leastF v s.told < 0
    ·rw [if_pos h3] at h; cases h
    ·rw [if_neg h3] at h; cases h
 | @go s s' r h _ ih =>
  intro hg hi hq hd
  obtain ⟨q1, q2⟩ := step_dist hg hi hq hd (hin s hg hi hq) h
  exact ih (step_good hv hl hg h).1 (step_inv hl hg hi h) q1 q2
theorem refC_neg {v : Nat} {l : List (List Int)} {s : St} (hg : Good v s) (hi : InvS l s) : ∀ x ∈ refC s.decs, x < 0 /\ -(v : Int) <= x := by
 intro x hx
 have h1 := refC_lits hg x hx
 rw [litB_iff] at h1
 unfold refC at hx
 obtain ⟨d, hd, rfl⟩ := List.mem_map.1 hx
 have := hi.now.pos d hd
 omega
end
section
open Go.RowKit Go.Deep Sv
def gA {α : Type} [DecidableEq α] (nm : Nat -> α) : Nat -> List (List Int) × List (List Int)
 | 0 => ([[]], [])
 | v + 1 => if v ≠ 0 /\ nm v = nm (v - 1) then ((gA nm v).1 ++ (gA nm v).2.map (· ++ [-((v : Int) + 1)]), (gA nm v).2)
  else ((gA nm v).1 ++ (gA nm v).1.map (· ++ [-((v : Int) + 1)]), (gA nm v).1)
def newsN {α : Type} [DecidableEq α] (nm : Nat -> α) (v : Nat) : List Nat := (List.range v).filter fun i => decide (¬ (i ≠ 0 /\ nm i = nm (i - 1)))
def ways12 : Nat -> Nat -> Nat -> Nat -> Bool
 | 0, _, a, _ => decide (a < 2000)
 | n + 1, k, a, b => decide (a < 2000) && ways12 n k (a + b) b && (match k with | 0 => true | k + 1 => ways12 n k (a + a) a)
theorem ways12_all : ways12 12 8 1 0 = true := by decide +kernel
theorem ways12_now : ∀ {n k a b : Nat}, ways12 n k a b = true -> a < 2000
 | 0, _, _, _, h => by simpa [ways12] using h
 | n + 1, k, a, b, h => by simp only [ways12, Bool.and_eq_true, decide_eq_true_eq] at h; exact h.1.1
theorem gA_ways {α : Type} [DecidableEq α] (nm : Nat -> α) : ∀ v, v <= 12 -> (newsN nm v).length <= 8 -> ways12 (12 - v) (8 - (newsN nm v).length) (gA nm v).1.length (gA nm v).2.length = true
 | 0, _, _ => ways12_all
 | v + 1, hv, hn => by
  have e : newsN nm (v + 1) = newsN nm v ++ (if ¬ (v ≠ 0 /\ nm v = nm (v - 1)) then [v] else []) := by
   unfold newsN
   rw [List.range_succ, List.filter_append]
   congr 1
   by_cases h : v ≠ 0 /\ nm v = nm (v - 1)
   ·simp [h]
   ·rw [if_pos h, List.filter_cons, if_pos (decide_eq_true h), List.filter_nil]
  have e12 : 12 - v = (12 - (v + 1)) + 1 := by omega
  by_cases h : v ≠ 0 /\ nm v = nm (v - 1)
  ·rw [if_neg (by simpa using h), List.append_nil] at e
   rw [e] at hn ⊢
   have ih := gA_ways nm v (by omega) hn
   rw [e12] at ih
   simp only [ways12, Bool.and_eq_true, decide_eq_true_eq] at ih
   unfold gA
   rw [if_pos h]
   simp only [List.length_append, List.length_map]
   exact ih.1.2
  ·rw [if_pos h] at e
   rw [e, List.length_append] at hn ⊢
   have ih := gA_ways nm v (by omega) (by simp at hn; omega)
   rw [e12] at ih
   simp only [ways12, Bool.and_eq_true, decide_eq_true_eq] at ih
   unfold gA
   rw [if_neg h]
   simp only [List.length_append, List.length_map, List.length_singleton]
   have e8 : 8 - (newsN nm v).length = (8 - ((newsN nm v).length + 1)) + 1 := by simp at hn; omega
   rw [e8] at ih
   exact ih.2
def itemI (x : Int) : Nat := (-x - 1).toNat
theorem gA_mem {α : Type} [DecidableEq α] (nm : Nat -> α) : ∀ (v : Nat) (c : List Int), Down c -> (∀ x ∈ c, x < 0 /\ -(v : Int) <= x) -> c.Pairwise (fun x y => nm (itemI x) ≠ nm (itemI y)) ->
  c ∈ (gA nm v).1 /\ (v ≠ 0 -> (∀ x ∈ c, nm (itemI x) ≠ nm (v - 1)) -> c ∈ (gA nm v).2)
 | 0, c, _, hb, _ => by
  cases c with
  | nil => exact ⟨by simp [gA], fun h => absurd rfl h⟩
  | cons x c => have := hb x (by simp); omega
 | v + 1, c, hd, hb, hp => by
  have low : (∀ x ∈ c, x ≠ -((v : Int) + 1)) -> ∀ x ∈ c, x < 0 /\ -(v : Int) <= x := fun h x hx => by
   have h1 := hb x hx
   have h2 := h x hx
   omega
  have hI : itemI (-((v : Int) + 1)) = v := by unfold itemI; omega
  constructor
  ·rcases List.eq_nil_or_concat c with rfl | ⟨c', y, rfl⟩
   ·have := (gA_mem nm v [] .nil (by simp) .nil).1
    unfold gA
    split <;> exact List.mem_append.2 (Or.inl this)
   ·rw [List.concat_eq_append] at *
    have hd' := List.pairwise_append.1 hd
    have hp' := List.pairwise_append.1 hp
    by_cases e : y = -((v : Int) + 1)
    ·subst e
     have hb' : ∀ x ∈ c', x < 0 /\ -(v : Int) <= x := fun x hx => by
      have h1 := hb x (by simp [hx])
      have h2 := hd'.2.2 x hx _ (List.mem_singleton.2 rfl)
      omega
     have ih := gA_mem nm v c' hd'.1 hb' hp'.1
     have hnm : ∀ x ∈ c', nm (itemI x) ≠ nm v := fun x hx => by
      have := hp'.2.2 x hx _ (List.mem_singleton.2 rfl)
      rwa [hI] at this
     unfold gA
     by_cases h : v ≠ 0 /\ nm v = nm (v - 1)
     ·rw [if_pos h]
      exact List.mem_append.2 (Or.inr (List.mem_map.2 ⟨c', ih.2 h.1 (fun x hx => by rw [<- h.2]; exact hnm x hx), rfl⟩))
     ·rw [if_neg h]
      exact List.mem_append.2 (Or.inr (List.mem_map.2 ⟨c', ih.1, rfl⟩))
    ·have hlow : ∀ x ∈ c' ++ [y], x ≠ -((v : Int) + 1) := fun x hx e' => by
      rcases List.mem_append.1 hx with h | h
      ·have h2 := hd'.2.2 x h y (by simp)
       have h3 := hb y (by simp)
       omega
      ·rw [List.mem_singleton] at h
       exact e (h ▸ e')
     have ih := (gA_mem nm v _ hd (low hlow) hp).1
     unfold gA
     split <;> exact List.mem_append.2 (Or.inl ih)
  ·intro _ hnm
   have hne : ∀ x ∈ c, x ≠ -((v : Int) + 1) := fun x hx e => hnm x hx (by rw [e, hI]; rfl)
   have ih := gA_mem nm v c hd (low hne) hp
   unfold gA
   by_cases h : v ≠ 0 /\ nm v = nm (v - 1)
   ·rw [if_pos h]
    exact ih.2 h.1 (fun x hx => by have := hnm x hx; rw [<- h.2]; exact this)
   ·rw [if_neg h]
    exact ih.1
theorem twelve_not_limit {α : Type} [DecidableEq α] (nm : Nat -> α) {v : Nat} {l : List (List Int)} (hv : v <= 12) (hl : LitsL v l) (hn : (newsN nm v).length <= 8) (h2 : ∀ i j, i < j -> j < v -> nm i = nm j -> [-((i : Int) + 1), -((j : Int) + 1)] ∈ l) {r : Res} (hr : Run v l st0 r) : r ≠ .limit := by
 refine run_not_limit (F := (gA nm v).1) (by omega) hl (ways12_now (gA_ways nm v hv hn)) (fun s hg hi hq => ?_) hr (good0 v) (inv0 l) (quiet0 l) (dist0 _)
 refine (gA_mem nm v _ (quiet_down hi hq) (refC_neg hg hi) ?_).1
 have hdn := quiet_down hi hq
 unfold Down refC at hdn
 rw [List.pairwise_map, List.pairwise_iff_getElem] at hdn
 unfold refC
 rw [List.pairwise_map, List.pairwise_iff_getElem]
 intro i j hi' hj' hij he
 have hlt := hdn i j hi' hj' hij
 have b1 := refC_neg hg hi (-(s.decs[i]).1) (List.mem_map.2 ⟨_, List.getElem_mem hi', rfl⟩)
 have b2 := refC_neg hg hi (-(s.decs[j]).1) (List.mem_map.2 ⟨_, List.getElem_mem hj', rfl⟩)
 have e1 : ((itemI (-(s.decs[i]).1) : Nat) : Int) + 1 = (s.decs[i]).1 := by unfold itemI; omega
 have e2 : ((itemI (-(s.decs[j]).1) : Nat) : Int) + 1 = (s.decs[j]).1 := by unfold itemI; omega
 have hcl := h2 _ _ (by omega) (by omega) he
 rw [e1, e2] at hcl
 exact quiet_two hi (fun k d hk => (hg.ds k d hk).1) hq hij hj' hcl (fun x hx => by
  simp only [List.mem_cons, List.not_mem_nil, or_false] at hx
  exact hx)
end
end Go.Proofs.YtpmpnbbihmgdpaaGreatDoor
