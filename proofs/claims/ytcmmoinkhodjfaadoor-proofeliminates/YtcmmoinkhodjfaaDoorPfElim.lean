/- Davis and Putnam: plain. -/
import Derived.Test.YtcmmoinkhodjfaaDoorPfForm
namespace Go.Proofs.YtcmmoinkhodjfaaDoor
open Go.RowKit

def holdS (vals : Nat) (s : Nat × Nat) : Prop := ∃ i, (s.1.testBit i = true ∧ vals.testBit i = true) ∨ (s.2.testBit i = true ∧ vals.testBit i = false)
theorem hold_sides {vals : Nat} {c : List Int} (hl : Lits 24 c) : holdS vals (sidesF c) ↔ ∃ x ∈ c, litH vals x = true := by
  constructor
  · rintro ⟨i, ⟨h1, h2⟩ | ⟨h1, h2⟩⟩
    · rw [sides_yes, decide_eq_true_eq] at h1
      refine ⟨_, h1.2, ?_⟩
      unfold litH; rw [if_pos (by omega), show ((i : Int) + 1).toNat - 1 = i by omega]; exact h2
    · rw [sides_no, decide_eq_true_eq] at h1
      refine ⟨_, h1.2, ?_⟩
      unfold litH; rw [if_neg (by omega), show (- -((i : Int) + 1)).toNat - 1 = i by omega, h2]; rfl
  · rintro ⟨x, hx, h⟩
    have hb := litB_iff.1 (hl x hx)
    unfold litH at h
    by_cases hp : 0 < x
    · rw [if_pos hp] at h
      refine ⟨x.toNat - 1, Or.inl ⟨?_, h⟩⟩
      rw [sides_yes, decide_eq_true_eq]; exact ⟨by omega, by rw [show ((x.toNat - 1 : Nat) : Int) + 1 = x by omega]; exact hx⟩
    · rw [if_neg hp] at h
      refine ⟨(-x).toNat - 1, Or.inr ⟨?_, by simpa using h⟩⟩
      rw [sides_no, decide_eq_true_eq]; exact ⟨by omega, by rw [show (((-x).toNat - 1 : Nat) : Int) + 1 = -x by omega, Int.neg_neg]; exact hx⟩
theorem hold_always {s : Nat × Nat} (h : alwaysF s = true) (vals : Nat) : holdS vals s := by
  obtain ⟨i, h1, h2⟩ := always_iff.1 h
  cases hv : vals.testBit i with
  | true => exact ⟨i, Or.inl ⟨h1, hv⟩⟩
  | false => exact ⟨i, Or.inr ⟨h2, hv⟩⟩

/-- Clauses, each once, in order of being there. -/
def addF (l : List (Nat × Nat)) (c : Nat × Nat) : List (Nat × Nat) := if alwaysF c = true ∨ c ∈ l then l else l ++ [c]
theorem mem_add {l : List (Nat × Nat)} {c d : Nat × Nat} : c ∈ addF l d ↔ c ∈ l ∨ (c = d ∧ alwaysF d = false) := by
  unfold addF
  by_cases h : alwaysF d = true ∨ d ∈ l
  · rw [if_pos h]
    refine ⟨Or.inl, fun h2 => ?_⟩
    rcases h2 with h2 | ⟨rfl, h2⟩
    · exact h2
    · rcases h with h | h
      · rw [h] at h2; cases h2
      · exact h
  · rw [if_neg h, List.mem_append, List.mem_singleton]
    have : alwaysF d = false := by
      cases h3 : alwaysF d with
      | false => rfl
      | true => exact absurd (Or.inl h3) h
    exact ⟨fun h2 => h2.imp id (fun e => ⟨e, this⟩), fun h2 => h2.imp id (·.1)⟩
theorem add_len (l : List (Nat × Nat)) (c : Nat × Nat) : l.length ≤ (addF l c).length ∧ (addF l c).length ≤ l.length + 1 := by
  unfold addF; split <;> simp
def addsF (l : List (Nat × Nat)) (cs : List (Nat × Nat)) : List (Nat × Nat) := cs.foldl addF l
theorem mem_adds {cs l : List (Nat × Nat)} {c : Nat × Nat} : c ∈ addsF l cs ↔ c ∈ l ∨ (c ∈ cs ∧ alwaysF c = false) := by
  unfold addsF
  induction cs generalizing l with
  | nil => simp
  | cons d cs ih =>
    rw [List.foldl_cons, ih, mem_add, List.mem_cons]
    constructor
    · rintro ((h | ⟨rfl, h⟩) | ⟨h, h2⟩)
      · exact Or.inl h
      · exact Or.inr ⟨Or.inl rfl, h⟩
      · exact Or.inr ⟨Or.inr h, h2⟩
    · rintro (h | ⟨rfl | h, h2⟩)
      · exact Or.inl (Or.inl h)
      · exact Or.inl (Or.inr ⟨rfl, h2⟩)
      · exact Or.inr ⟨h, h2⟩
theorem adds_len (cs l : List (Nat × Nat)) : l.length ≤ (addsF l cs).length := by
  unfold addsF
  induction cs generalizing l with
  | nil => exact Nat.le_refl _
  | cons d cs ih => rw [List.foldl_cons]; exact Nat.le_trans (add_len l d).1 (ih _)
theorem adds_snoc (l cs : List (Nat × Nat)) (c : Nat × Nat) : addsF l (cs ++ [c]) = addF (addsF l cs) c := by unfold addsF; rw [List.foldl_append]; rfl
theorem adds_append (l cs ds : List (Nat × Nat)) : addsF l (cs ++ ds) = addsF (addsF l cs) ds := by unfold addsF; rw [List.foldl_append]

/-- Those with a variable, with its other side, and without. -/
def withF (l : List (Nat × Nat)) (v : Nat) : List (Nat × Nat) := l.filter fun c => c.1.testBit v
def agF (l : List (Nat × Nat)) (v : Nat) : List (Nat × Nat) := l.filter fun c => !c.1.testBit v && c.2.testBit v
def restF (l : List (Nat × Nat)) (v : Nat) : List (Nat × Nat) := l.filter fun c => !c.1.testBit v && !c.2.testBit v
def rowR (a : Nat × Nat) (bs : List (Nat × Nat)) (v : Nat) : List (Nat × Nat) := bs.map fun b => resolveF a b v
/-- Till there are too many. -/
def goW (bs : List (Nat × Nat)) (v : Nat) : List (Nat × Nat) → List (Nat × Nat) → List (Nat × Nat)
  | [], out => out
  | a :: ws, out => if 2000 < (addsF out (rowR a bs v)).length then addsF out (rowR a bs v) else goW bs v ws (addsF out (rowR a bs v))
def allR (ws bs : List (Nat × Nat)) (v : Nat) : List (Nat × Nat) := ws.flatMap fun a => rowR a bs v
def withoutF (l : List (Nat × Nat)) (v : Nat) : List (Nat × Nat) := goW (agF l v) v (withF l v) (addsF [] (restF l v))
theorem goW_few {bs : List (Nat × Nat)} {v : Nat} : ∀ {ws out : List (Nat × Nat)}, (goW bs v ws out).length ≤ 2000 → goW bs v ws out = addsF out (allR ws bs v)
  | [], out, _ => rfl
  | a :: ws, out, h => by
    unfold goW at *
    by_cases h2 : 2000 < (addsF out (rowR a bs v)).length
    · rw [if_pos h2] at h; omega
    · rw [if_neg h2] at *
      rw [goW_few h]
      show _ = addsF out (rowR a bs v ++ allR ws bs v)
      rw [adds_append]
theorem goW_many {bs : List (Nat × Nat)} {v : Nat} : ∀ {ws out : List (Nat × Nat)}, (goW bs v ws out).length ≤ (addsF out (allR ws bs v)).length
  | [], out => Nat.le_refl _
  | a :: ws, out => by
    unfold goW
    have e : addsF out (allR (a :: ws) bs v) = addsF (addsF out (rowR a bs v)) (allR ws bs v) := by
      show addsF out (rowR a bs v ++ allR ws bs v) = _
      rw [adds_append]
    rw [e]
    by_cases h2 : 2000 < (addsF out (rowR a bs v)).length
    · rw [if_pos h2]; exact adds_len _ _
    · rw [if_neg h2]; exact goW_many
theorem mem_allR {ws bs : List (Nat × Nat)} {v : Nat} {c : Nat × Nat} : c ∈ allR ws bs v ↔ ∃ a ∈ ws, ∃ b ∈ bs, c = resolveF a b v := by
  unfold allR rowR
  rw [List.mem_flatMap]
  constructor
  · rintro ⟨a, ha, h⟩
    obtain ⟨b, hb, rfl⟩ := List.mem_map.1 h
    exact ⟨a, ha, b, hb, rfl⟩
  · rintro ⟨a, ha, b, hb, rfl⟩
    exact ⟨a, ha, List.mem_map.2 ⟨b, hb, rfl⟩⟩

/-- Clauses that don't hold always, of variables from v to below n. -/
def Only (v n : Nat) (l : List (Nat × Nat)) : Prop := ∀ c ∈ l, alwaysF c = false ∧ ∀ i, c.1.testBit i = true ∨ c.2.testBit i = true → v ≤ i ∧ i < n
theorem not_both {c : Nat × Nat} (h : alwaysF c = false) {i : Nat} (h1 : c.1.testBit i = true) (h2 : c.2.testBit i = true) : False := by
  have := always_iff.2 ⟨i, h1, h2⟩
  rw [h] at this; cases this
theorem res_yes (a b : Nat × Nat) (v i : Nat) : (resolveF a b v).1.testBit i = (a.1.testBit i && !decide (v = i) || b.1.testBit i) := by
  show (_ ||| _ : Nat).testBit i = _; rw [Nat.testBit_or, off_bit]
theorem res_no (a b : Nat × Nat) (v i : Nat) : (resolveF a b v).2.testBit i = (a.2.testBit i || b.2.testBit i && !decide (v = i)) := by
  show (_ ||| _ : Nat).testBit i = _; rw [Nat.testBit_or, off_bit]

theorem mem_without {l : List (Nat × Nat)} {v : Nat} (hf : (withoutF l v).length ≤ 2000) {c : Nat × Nat} : c ∈ withoutF l v ↔ (c ∈ restF l v ∨ ∃ a ∈ withF l v, ∃ b ∈ agF l v, c = resolveF a b v) ∧ alwaysF c = false := by
  unfold withoutF at *
  rw [goW_few hf, mem_adds, mem_adds, mem_allR]
  constructor
  · rintro ((h | ⟨h, h2⟩) | ⟨h, h2⟩)
    · cases h
    · exact ⟨Or.inl h, h2⟩
    · exact ⟨Or.inr h, h2⟩
  · rintro ⟨h | h, h2⟩
    · exact Or.inl (Or.inr ⟨h, h2⟩)
    · exact Or.inr ⟨h, h2⟩

theorem only_without {l : List (Nat × Nat)} {v n : Nat} (hf : (withoutF l v).length ≤ 2000) (h : Only v n l) : Only (v + 1) n (withoutF l v) := by
  intro c hc
  obtain ⟨h1, h2⟩ := (mem_without hf).1 hc
  refine ⟨h2, fun i hi => ?_⟩
  rcases h1 with h1 | ⟨a, ha, b, hb, rfl⟩
  · obtain ⟨h3, h4⟩ := List.mem_filter.1 h1
    have h5 := (h c h3).2 i hi
    refine ⟨?_, h5.2⟩
    rcases Nat.lt_or_ge v i with h6 | h6
    · exact h6
    · obtain rfl : i = v := by omega
      rw [Bool.and_eq_true, Bool.not_eq_true', Bool.not_eq_true'] at h4
      rcases hi with hi | hi
      · rw [h4.1] at hi; cases hi
      · rw [h4.2] at hi; cases hi
  · obtain ⟨ha1, ha2⟩ := List.mem_filter.1 ha
    obtain ⟨hb1, hb2⟩ := List.mem_filter.1 hb
    rw [Bool.and_eq_true, Bool.not_eq_true'] at hb2
    have hne : v ≠ i := by
      rintro rfl
      rw [res_yes, res_no] at hi
      simp only [decide_true, Bool.not_true, Bool.and_false, Bool.false_or, Bool.or_false] at hi
      rcases hi with hi | hi
      · rw [hb2.1] at hi; cases hi
      · exact not_both (h a ha1).1 ha2 hi
    have : v ≤ i ∧ i < n := by
      rw [res_yes, res_no] at hi
      simp only [decide_eq_false hne, Bool.not_false, Bool.and_true, Bool.or_eq_true] at hi
      rcases hi with (hi | hi) | (hi | hi)
      · exact (h a ha1).2 i (Or.inl hi)
      · exact (h b hb1).2 i (Or.inl hi)
      · exact (h a ha1).2 i (Or.inr hi)
      · exact (h b hb1).2 i (Or.inr hi)
    omega

def SatS (vals : Nat) (l : List (Nat × Nat)) : Prop := ∀ c ∈ l, holdS vals c
/-- What follows from two holds where both do. -/
theorem hold_resolve {vals v : Nat} {a b : Nat × Nat} (ha : holdS vals a) (hb : holdS vals b) : holdS vals (resolveF a b v) := by
  obtain ⟨i, hi⟩ := ha
  obtain ⟨j, hj⟩ := hb
  by_cases hv : vals.testBit v = true
  · -- the other side of v is false: b holds by another one
    rcases hj with ⟨h1, h2⟩ | ⟨h1, h2⟩
    · exact ⟨j, Or.inl ⟨by rw [res_yes, h1, Bool.or_true], h2⟩⟩
    · have hne : v ≠ j := by rintro rfl; rw [hv] at h2; cases h2
      exact ⟨j, Or.inr ⟨by rw [res_no, h1, decide_eq_false hne, Bool.not_false, Bool.and_true, Bool.or_true], h2⟩⟩
  · rcases hi with ⟨h1, h2⟩ | ⟨h1, h2⟩
    · have hne : v ≠ i := by rintro rfl; exact hv h2
      exact ⟨i, Or.inl ⟨by rw [res_yes, h1, decide_eq_false hne, Bool.not_false, Bool.and_true, Bool.true_or], h2⟩⟩
    · exact ⟨i, Or.inr ⟨by rw [res_no, h1, Bool.true_or], h2⟩⟩
theorem sat_without {l : List (Nat × Nat)} {v : Nat} (hf : (withoutF l v).length ≤ 2000) {vals : Nat} (h : SatS vals l) : SatS vals (withoutF l v) := by
  intro c hc
  rcases ((mem_without hf).1 hc).1 with h1 | ⟨a, ha, b, hb, rfl⟩
  · exact h c (List.mem_filter.1 h1).1
  · exact hold_resolve (h a (List.mem_filter.1 ha).1) (h b (List.mem_filter.1 hb).1)

/-- Values with one bit set, or not. -/
def setB (vals v : Nat) (b : Bool) : Nat := if b then vals ||| 2 ^ v else offBit vals v
theorem setB_bit (vals v i : Nat) (b : Bool) : (setB vals v b).testBit i = if v = i then b else vals.testBit i := by
  unfold setB
  cases b with
  | true =>
    rw [if_pos rfl, bit_or]
    by_cases h : v = i <;> simp [h]
  | false =>
    rw [if_neg (by simp), off_bit]
    by_cases h : v = i <;> simp [h]
theorem hold_setB {vals v : Nat} {b : Bool} {c : Nat × Nat} (h1 : c.1.testBit v = false) (h2 : c.2.testBit v = false) : holdS (setB vals v b) c ↔ holdS vals c := by
  have e : ∀ i, c.1.testBit i = true ∨ c.2.testBit i = true → (setB vals v b).testBit i = vals.testBit i := fun i hi => by
    rw [setB_bit, if_neg]
    rintro rfl
    rw [h1, h2] at hi
    rcases hi with hi | hi <;> cases hi
  constructor
  · rintro ⟨i, ⟨h3, h4⟩ | ⟨h3, h4⟩⟩
    · exact ⟨i, Or.inl ⟨h3, by rw [← e i (Or.inl h3)]; exact h4⟩⟩
    · exact ⟨i, Or.inr ⟨h3, by rw [← e i (Or.inr h3)]; exact h4⟩⟩
  · rintro ⟨i, ⟨h3, h4⟩ | ⟨h3, h4⟩⟩
    · exact ⟨i, Or.inl ⟨h3, by rw [e i (Or.inl h3)]; exact h4⟩⟩
    · exact ⟨i, Or.inr ⟨h3, by rw [e i (Or.inr h3)]; exact h4⟩⟩
/-- Does a clause hold by another variable? -/
def holdX (vals v : Nat) (c : Nat × Nat) : Prop := ∃ i, v ≠ i ∧ ((c.1.testBit i = true ∧ vals.testBit i = true) ∨ (c.2.testBit i = true ∧ vals.testBit i = false))
theorem holdX_set {vals v : Nat} {b : Bool} {c : Nat × Nat} (h : holdX vals v c) : holdS (setB vals v b) c := by
  obtain ⟨i, hne, h⟩ := h
  refine ⟨i, ?_⟩
  rw [setB_bit, if_neg hne]
  exact h
theorem sat_back {l : List (Nat × Nat)} {v n : Nat} (hf : (withoutF l v).length ≤ 2000) (ho : Only v n l) {vals : Nat} (h : SatS vals (withoutF l v)) : ∃ vals', SatS vals' l := by
  have rest : ∀ (b : Bool) (c), c ∈ l → c.1.testBit v = false → c.2.testBit v = false → holdS (setB vals v b) c := fun b c hc h1 h2 => by
    rw [hold_setB h1 h2]
    exact h c ((mem_without hf).2 ⟨Or.inl (List.mem_filter.2 ⟨hc, by rw [h1, h2]; rfl⟩), (ho c hc).1⟩)
  by_cases hall : ∀ a ∈ withF l v, holdX vals v a
  · refine ⟨setB vals v false, fun c hc => ?_⟩
    cases h1 : c.1.testBit v with
    | true => exact holdX_set (hall c (List.mem_filter.2 ⟨hc, h1⟩))
    | false =>
      cases h2 : c.2.testBit v with
      | true => exact ⟨v, Or.inr ⟨h2, by rw [setB_bit, if_pos rfl]⟩⟩
      | false => exact rest false c hc h1 h2
  · have hx : ∃ a ∈ withF l v, ¬ holdX vals v a := by
      refine Classical.byContradiction fun hno => hall fun a ha => Classical.byContradiction fun hna => hno ⟨a, ha, hna⟩
    obtain ⟨a, ha, hna⟩ := hx
    refine ⟨setB vals v true, fun c hc => ?_⟩
    cases h1 : c.1.testBit v with
    | true => exact ⟨v, Or.inl ⟨h1, by rw [setB_bit, if_pos rfl]⟩⟩
    | false =>
      cases h2 : c.2.testBit v with
      | false => exact rest true c hc h1 h2
      | true =>
        have hcb : c ∈ agF l v := List.mem_filter.2 ⟨hc, by rw [h1, h2]; rfl⟩
        have hr : holdS vals (resolveF a c v) := by
          cases hw : alwaysF (resolveF a c v) with
          | true => exact hold_always hw vals
          | false => exact h _ ((mem_without hf).2 ⟨Or.inr ⟨a, ha, c, hcb, rfl⟩, hw⟩)
        obtain ⟨hal, hav⟩ := List.mem_filter.1 ha
        refine holdX_set ?_
        obtain ⟨i, hi⟩ := hr
        rw [res_yes, res_no] at hi
        have hne : v ≠ i := by
          rintro rfl
          simp only [decide_true, Bool.not_true, Bool.and_false, Bool.false_or, Bool.or_false] at hi
          rcases hi with ⟨hi, _⟩ | ⟨hi, _⟩
          · rw [h1] at hi; cases hi
          · exact not_both (ho a hal).1 hav hi
        simp only [decide_eq_false hne, Bool.not_false, Bool.and_true, Bool.or_eq_true] at hi
        rcases hi with ⟨hi | hi, h5⟩ | ⟨hi | hi, h5⟩
        · exact absurd ⟨i, hne, Or.inl ⟨hi, h5⟩⟩ hna
        · exact ⟨i, hne, Or.inl ⟨hi, h5⟩⟩
        · exact absurd ⟨i, hne, Or.inr ⟨hi, h5⟩⟩ hna
        · exact ⟨i, hne, Or.inr ⟨hi, h5⟩⟩

/-- What is left behind so many variables, and how many behind each; none: too much. -/
def elimK (l : List (Nat × Nat)) : Nat → Option (List Int × List (Nat × Nat))
  | 0 => some ([], l)
  | k + 1 => match elimK l k with
    | none => none
    | some (s, m) => if 2000 < (withoutF m k).length then none else some (s ++ [((withoutF m k).length : Int)], withoutF m k)
theorem elimK_is {l : List (Nat × Nat)} {n : Nat} (ho : Only 0 n l) : ∀ {k : Nat} {s : List Int} {m : List (Nat × Nat)}, elimK l k = some (s, m) → Only k n m ∧ s.length = k ∧ ((∃ vals, SatS vals l) ↔ ∃ vals, SatS vals m)
  | 0, s, m, h => by
    simp [elimK] at h
    obtain ⟨rfl, rfl⟩ := h
    exact ⟨ho, rfl, Iff.rfl⟩
  | k + 1, s, m, h => by
    unfold elimK at h
    cases hk : elimK l k with
    | none => rw [hk] at h; cases h
    | some p =>
      obtain ⟨s', m'⟩ := p
      rw [hk] at h
      simp only at h
      by_cases hf : 2000 < (withoutF m' k).length
      · rw [if_pos hf] at h; cases h
      · rw [if_neg hf] at h
        simp only [Option.some.injEq, Prod.mk.injEq] at h
        obtain ⟨rfl, rfl⟩ := h
        obtain ⟨h1, h2, h3⟩ := elimK_is ho hk
        refine ⟨only_without (by omega) h1, by rw [List.length_append, List.length_singleton, h2], h3.trans ?_⟩
        exact ⟨fun ⟨vals, h⟩ => ⟨vals, sat_without (by omega) h⟩, fun ⟨vals, h⟩ => sat_back (by omega) h1 h⟩
theorem elimK_more {l : List (Nat × Nat)} {k : Nat} (h : elimK l k = none) : ∀ j, elimK l (k + j) = none
  | 0 => h
  | j + 1 => by rw [← Nat.add_assoc]; unfold elimK; rw [elimK_more h j]

/-- What was told, put there first. -/
def firstL (l : List (List Int)) : List (Nat × Nat) := addsF [] (l.map sidesF)
theorem only_first {l : List (List Int)} {n : Nat} (hl : LitsL n l) : Only 0 n (firstL l) := by
  intro c hc
  unfold firstL at hc
  rw [mem_adds] at hc
  rcases hc with hc | ⟨hc, h2⟩
  · cases hc
  · obtain ⟨d, hd, rfl⟩ := List.mem_map.1 hc
    refine ⟨h2, fun i hi => ⟨Nat.zero_le _, ?_⟩⟩
    rw [sides_yes, sides_no, decide_eq_true_eq, decide_eq_true_eq] at hi
    rcases hi with ⟨_, hi⟩ | ⟨_, hi⟩
    · have := litB_iff.1 (hl d hd _ hi); omega
    · have := litB_iff.1 (hl d hd _ hi); omega
theorem sat_first {l : List (List Int)} {n : Nat} (hn : n ≤ 24) (hl : LitsL n l) {vals : Nat} : SatS vals (firstL l) ↔ ∀ c ∈ l, ∃ x ∈ c, litH vals x = true := by
  have h24 : LitsL 24 l := fun c hc x hx => lit_24 (by omega) (hl c hc x hx)
  constructor
  · intro h c hc
    rw [← hold_sides (h24 c hc)]
    cases ha : alwaysF (sidesF c) with
    | true => exact hold_always ha vals
    | false => exact h _ (by unfold firstL; rw [mem_adds]; exact Or.inr ⟨List.mem_map_of_mem hc, ha⟩)
  · intro h c hc
    unfold firstL at hc
    rw [mem_adds] at hc
    rcases hc with hc | ⟨hc, h2⟩
    · cases hc
    · obtain ⟨d, hd, rfl⟩ := List.mem_map.1 hc
      rw [hold_sides (h24 d hd)]
      exact h d hd
/-- DAVIS AND PUTNAM. -/
theorem elim_can {l : List (List Int)} {n : Nat} (hn : n ≤ 24) (hl : LitsL n l) {s : List Int} {m : List (Nat × Nat)} (h : elimK (firstL l) n = some (s, m)) : s.length = n ∧ (m = [] ↔ ∃ vals, ∀ c ∈ l, ∃ x ∈ c, litH vals x = true) := by
  obtain ⟨h1, h2, h3⟩ := elimK_is (only_first hl) h
  refine ⟨h2, ?_⟩
  have e : (∃ vals, ∀ c ∈ l, ∃ x ∈ c, litH vals x = true) ↔ ∃ vals, SatS vals m :=
    ⟨fun ⟨vals, h⟩ => h3.1 ⟨vals, (sat_first hn hl).2 h⟩, fun h => (h3.2 h).imp fun vals h => (sat_first hn hl).1 h⟩
  rw [e]
  constructor
  · rintro rfl; exact ⟨0, fun c hc => by cases hc⟩
  · rintro ⟨vals, hs⟩
    cases m with
    | nil => rfl
    | cons c m =>
      obtain ⟨i, hi⟩ := hs c List.mem_cons_self
      have := (h1 c List.mem_cons_self).2 i (hi.imp (·.1) (·.1))
      omega
end Go.Proofs.YtcmmoinkhodjfaaDoor
