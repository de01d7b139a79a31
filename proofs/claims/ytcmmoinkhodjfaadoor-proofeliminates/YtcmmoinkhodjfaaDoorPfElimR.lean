/- The reference's elimination: plain. -/
import Derived.Test.YtcmmoinkhodjfaaDoorPfElim
import Derived.Test.YtcmmoinkhodjfaaDoorPfTextF
import Derived.Test.YtcmmoinkhodjfaaDoorPfFormW
namespace Go.Proofs.YtcmmoinkhodjfaaDoor
open Go.RowKit

def clsF (P : List (Nat × Nat)) : List (List Int) := P.map clauseF
def Tidy (P : List (Nat × Nat)) : Prop := ∀ s ∈ P, Small s ∧ alwaysF s = false
theorem cl_inj {s t : Nat × Nat} (hs : Small s ∧ alwaysF s = false) (ht : Small t ∧ alwaysF t = false) (h : clauseF s = clauseF t) : s = t := by
  rw [← sides_clauseF hs.1 hs.2, h, sides_clauseF ht.1 ht.2]
def onceF (K : List (List Int)) (c : List Int) : List (List Int) := if (formF c).2 = true ∨ (formF c).1 ∈ K then K else K ++ [(formF c).1]
theorem tidy_add {P : List (Nat × Nat)} {c : Nat × Nat} (hP : Tidy P) (hc : Small c) : Tidy (addF P c) := fun s hs => by
  rcases mem_add.1 hs with h | ⟨rfl, h⟩
  · exact hP s h
  · exact ⟨hc, h⟩
theorem once_add {P : List (Nat × Nat)} (hP : Tidy P) (c : List Int) : onceF (clsF P) c = clsF (addF P (sidesF c)) := by
  unfold onceF addF formF
  have hs := sides_small c
  generalize sidesF c = s at *
  cases ha : alwaysF s with
  | true => simp
  | false =>
    have hm : clauseF s ∈ clsF P ↔ s ∈ P := by
      unfold clsF
      rw [List.mem_map]
      exact ⟨fun ⟨t, ht, e⟩ => by rw [← cl_inj (hP t ht) ⟨hs, ha⟩ e]; exact ht, fun h => ⟨s, h, rfl⟩⟩
    by_cases h : s ∈ P
    · simp [hm, h]
    · simp only [hm, h, Bool.false_eq_true, or_self, if_false]
      simp [clsF]
theorem form_near (c : List Int) : (∀ x ∈ (formF c).1, Near x) ∧ (formF c).1.length ≤ 24 := by
  unfold formF
  split
  · exact ⟨fun x hx => by simp at hx, by simp⟩
  · refine ⟨fun x hx => ?_, clauseK_len _ 24⟩
    have := lits_clauseF x hx
    simp [litB] at this
    exact ⟨by omega, by omega⟩
theorem cl_near (s : Nat × Nat) : (∀ x ∈ clauseF s, Near x) ∧ (clauseF s).length ≤ 24 := by
  refine ⟨fun x hx => ?_, clauseK_len _ 24⟩
  have := lits_clauseF x hx
  simp [litB] at this
  exact ⟨by omega, by omega⟩
theorem cl_yes {s : Nat × Nat} (hs : alwaysF s = false) {v : Nat} (hv : v < 24) : decide ((v : Int) + 1 ∈ clauseF s) = s.1.testBit v := by
  rw [Bool.eq_iff_iff, decide_eq_true_eq, mem_clauseF hs]
  constructor
  · rintro ⟨i, hi, ⟨e, h⟩ | ⟨e, h⟩⟩
    · obtain rfl : v = i := by omega
      exact h
    · omega
  · exact fun h => ⟨v, hv, Or.inl ⟨rfl, h⟩⟩
theorem cl_no {s : Nat × Nat} (hs : alwaysF s = false) {v : Nat} (hv : v < 24) : decide (-((v : Int) + 1) ∈ clauseF s) = s.2.testBit v := by
  rw [Bool.eq_iff_iff, decide_eq_true_eq, mem_clauseF hs]
  constructor
  · rintro ⟨i, hi, ⟨e, h⟩ | ⟨e, h⟩⟩
    · omega
    · obtain rfl : v = i := by omega
      exact h
  · exact fun h => ⟨v, hv, Or.inr ⟨rfl, h⟩⟩
theorem not_two {s : Nat × Nat} (hs : alwaysF s = false) {v : Nat} (h1 : s.1.testBit v = true) : s.2.testBit v = false := by
  cases h : s.2.testBit v with
  | false => rfl
  | true => rw [always_iff.2 ⟨v, h1, h⟩] at hs; cases hs

/-- One pair. -/
def pairG (v : Nat) (a : Nat × Nat) (n : List (Nat × Nat)) (b : Nat × Nat) : List (Nat × Nat) := if a.1.testBit v = true ∧ b.2.testBit v = true then addF n (resolveF a b v) else n
def rowG (v : Nat) (P : List (Nat × Nat)) (n : List (Nat × Nat)) (a : Nat × Nat) : List (Nat × Nat) := P.foldl (pairG v a) n
def restG (v : Nat) (n : List (Nat × Nat)) (c : Nat × Nat) : List (Nat × Nat) := if c.1.testBit v = false ∧ c.2.testBit v = false then addF n c else n
def nowF (P : List (Nat × Nat)) (v : Nat) : List (Nat × Nat) := addsF (addsF [] (restF P v)) (allR (withF P v) (agF P v) v)
theorem restG_is (v : Nat) : ∀ (P n : List (Nat × Nat)), P.foldl (restG v) n = addsF n (restF P v)
  | [], n => rfl
  | c :: P, n => by
    rw [List.foldl_cons, restG_is v P]
    unfold restG restF
    rw [List.filter_cons]
    by_cases h : c.1.testBit v = false ∧ c.2.testBit v = false
    · rw [if_pos h, if_pos (by rw [h.1, h.2]; rfl)]; rfl
    · rw [if_neg h, if_neg (by cases h1 : c.1.testBit v <;> cases h2 : c.2.testBit v <;> simp_all)]
theorem rowG_is (v : Nat) (a : Nat × Nat) : ∀ (P n : List (Nat × Nat)), Tidy P → rowG v P n a = if a.1.testBit v = true then addsF n (rowR a (agF P v) v) else n
  | [], n, _ => by unfold rowG; split <;> rfl
  | c :: P, n, hP => by
    have hT : Tidy P := fun s hs => hP s (List.mem_cons_of_mem _ hs)
    have hc := (hP c List.mem_cons_self).2
    have e : rowG v (c :: P) n a = rowG v P (pairG v a n c) a := rfl
    rw [e, rowG_is v a P _ hT]
    unfold pairG agF
    rw [List.filter_cons]
    by_cases ha : a.1.testBit v = true
    · rw [if_pos ha, if_pos ha]
      by_cases h : c.2.testBit v = true
      · have h1 : c.1.testBit v = false := by
          cases h1 : c.1.testBit v with
          | false => rfl
          | true => rw [not_two hc h1] at h; cases h
        rw [if_pos ⟨ha, h⟩, if_pos (by rw [h, h1]; rfl)]; rfl
      · rw [if_neg (fun q => h q.2), if_neg (by simp [h])]
    · rw [if_neg ha, if_neg ha, if_neg (fun q => ha q.1)]
theorem rows_is (v : Nat) (P : List (Nat × Nat)) (hP : Tidy P) : ∀ (Q n : List (Nat × Nat)), Q.foldl (rowG v P) n = addsF n (allR (withF Q v) (agF P v) v)
  | [], n => rfl
  | a :: Q, n => by
    rw [List.foldl_cons, rows_is v P hP Q, rowG_is v a P n hP]
    unfold withF
    rw [List.filter_cons]
    by_cases ha : a.1.testBit v = true
    · rw [if_pos ha, if_pos ha]
      show _ = addsF n (rowR a (agF P v) v ++ allR (Q.filter fun c => c.1.testBit v) (agF P v) v)
      rw [adds_append]
    · rw [if_neg ha, if_neg ha]
theorem now_few {P : List (Nat × Nat)} {v : Nat} : (2000 < (nowF P v).length ↔ 2000 < (withoutF P v).length) ∧ (¬ 2000 < (nowF P v).length → nowF P v = withoutF P v) := by
  have h1 : (withoutF P v).length ≤ (nowF P v).length := goW_many
  have h2 : (withoutF P v).length ≤ 2000 → withoutF P v = nowF P v := goW_few
  refine ⟨⟨fun h => ?_, fun h => by omega⟩, fun h => (h2 (by omega)).symm⟩
  rcases Nat.lt_or_ge 2000 (withoutF P v).length with q | q
  · exact q
  · rw [h2 q]; exact h
theorem tidy_adds {P Q : List (Nat × Nat)} (hP : Tidy P) (hQ : ∀ s ∈ Q, Small s) : Tidy (addsF P Q) := by
  intro s hs
  rcases mem_adds.1 hs with h | ⟨h, h2⟩
  · exact hP s h
  · exact ⟨hQ s h, h2⟩
theorem tidy_now {P : List (Nat × Nat)} {v : Nat} (hP : Tidy P) : Tidy (nowF P v) := by
  refine tidy_adds (tidy_adds (fun s hs => by cases hs) fun s hs => (hP s (List.mem_filter.1 hs).1).1) fun s hs => ?_
  obtain ⟨a, ha, b, hb, rfl⟩ := mem_allR.1 hs
  exact resolve_small (hP a (List.mem_filter.1 ha).1).1 (hP b (List.mem_filter.1 hb).1).1
theorem tidy_first (l : List (List Int)) : Tidy (firstL l) := tidy_adds (fun s hs => by cases hs) fun s hs => by
  obtain ⟨c, _, rfl⟩ := List.mem_map.1 hs
  exact sides_small c
theorem pairG_len (v : Nat) (a : Nat × Nat) (n : List (Nat × Nat)) (b : Nat × Nat) : (pairG v a n b).length ≤ n.length + 1 := by
  unfold pairG; split
  · exact (add_len _ _).2
  · omega
theorem restG_len (v : Nat) (n : List (Nat × Nat)) (b : Nat × Nat) : (restG v n b).length ≤ n.length + 1 := by
  unfold restG; split
  · exact (add_len _ _).2
  · omega
theorem tidy_pair {v : Nat} {a b : Nat × Nat} {n : List (Nat × Nat)} (hn : Tidy n) (ha : Small a) (hb : Small b) : Tidy (pairG v a n b) := by
  unfold pairG; split
  · exact tidy_add hn (resolve_small ha hb)
  · exact hn
theorem tidy_rest {v : Nat} {b : Nat × Nat} {n : List (Nat × Nat)} (hn : Tidy n) (hb : Small b) : Tidy (restG v n b) := by
  unfold restG; split
  · exact tidy_add hn hb
  · exact hn
theorem foldl_take {α β : Type} (f : β → α → β) (n : β) {l : List α} {k : Nat} {d : α} (h : k < l.length) : (l.take (k + 1)).foldl f n = f ((l.take k).foldl f n) (l.getD k d) := by
  rw [List.take_add_one, List.getElem?_eq_getElem h, List.getD_eq_getElem?_getD, List.getElem?_eq_getElem h, List.foldl_append]; rfl
/-- What Resolve tells of two clauses in form. -/
theorem res_cl {a b : Nat × Nat} (ha : Small a ∧ alwaysF a = false) (hb : Small b ∧ alwaysF b = false) {v : Nat} (hv : v < 24) :
    resF (clauseF a) (clauseF b) v = if a.1.testBit v = true ∧ b.2.testBit v = true then (if alwaysF (resolveF a b v) = true then (8, []) else (0, clauseF (resolveF a b v))) else (1, []) := by
  have e1 := cl_yes ha.2 hv
  have e2 := cl_no hb.2 hv
  unfold resF
  rw [sides_clauseF ha.1 ha.2, sides_clauseF hb.1 hb.2]
  by_cases h : a.1.testBit v = true ∧ b.2.testBit v = true
  · rw [if_pos h]
    rw [h.1, decide_eq_true_eq] at e1
    rw [h.2, decide_eq_true_eq] at e2
    rw [if_pos ⟨by omega, by omega, e1, e2⟩]
    rfl
  · rw [if_neg h, if_neg]
    rintro ⟨_, _, q1, q2⟩
    exact h ⟨by rw [← e1]; simpa using q1, by rw [← e2]; simpa using q2⟩
end Go.Proofs.YtcmmoinkhodjfaaDoor
