/- Spans of numbers: what is in them; rising ones with a gap between are told by what is in them; not, both. -/
import Derived.Test.YtbohpflbifoohaaGreatDoorRows
namespace Go.Proofs.YtbohpflbifoohaaGreatDoor.Sv

/-- How many versions there are. -/
def ALL : Nat := 1000000000

abbrev Span := Nat × Nat

def mem (l : List Span) (n : Nat) : Prop := ∃ s ∈ l, s.1 ≤ n ∧ n < s.2

theorem mem_nil (n : Nat) : ¬ mem [] n := fun ⟨_, h, _⟩ => by cases h
theorem mem_cons {s : Span} {l : List Span} {n : Nat} : mem (s :: l) n ↔ (s.1 ≤ n ∧ n < s.2) ∨ mem l n := by
  unfold mem
  constructor
  · rintro ⟨t, ht, h⟩
    rcases List.mem_cons.1 ht with rfl | ht
    · exact Or.inl h
    · exact Or.inr ⟨t, ht, h⟩
  · rintro (h | ⟨t, ht, h⟩)
    · exact ⟨s, List.mem_cons_self, h⟩
    · exact ⟨t, List.mem_cons_of_mem _ ht, h⟩

/-- Rising from a number on, none empty, between two of them a gap. -/
def Canon (lo : Nat) : List Span → Prop
  | [] => True
  | s :: r => lo ≤ s.1 ∧ s.1 < s.2 ∧ s.2 ≤ ALL ∧ Canon (s.2 + 1) r

theorem Canon.mono {lo hi : Nat} {l : List Span} (h : Canon hi l) (hh : lo ≤ hi) : Canon lo l := by
  cases l with
  | nil => trivial
  | cons s r => exact ⟨Nat.le_trans hh h.1, h.2⟩

theorem Canon.ge {lo n : Nat} {l : List Span} (h : Canon lo l) (hm : mem l n) : lo ≤ n := by
  induction l generalizing lo with
  | nil => exact absurd hm (mem_nil n)
  | cons s r ih =>
    rcases mem_cons.1 hm with ⟨h1, _⟩ | hm
    · exact Nat.le_trans h.1 h1
    · have := ih h.2.2.2 hm
      have := h.1; have := h.2.1
      omega
theorem Canon.lt {lo n : Nat} {l : List Span} (h : Canon lo l) (hm : mem l n) : n < ALL := by
  induction l generalizing lo with
  | nil => exact absurd hm (mem_nil n)
  | cons s r ih =>
    rcases mem_cons.1 hm with ⟨_, h1⟩ | hm
    · exact Nat.lt_of_lt_of_le h1 h.2.2.1
    · exact ih h.2.2.2 hm

/-- The same numbers are the same spans. -/
theorem canon_ext {l m : List Span} : ∀ {lo lo' : Nat}, Canon lo l → Canon lo' m → (∀ n, mem l n ↔ mem m n) → l = m := by
  induction l generalizing m with
  | nil =>
    intro lo lo' _ hm h
    cases m with
    | nil => rfl
    | cons s r => exact absurd ((h s.1).2 (mem_cons.2 (Or.inl ⟨Nat.le_refl _, hm.2.1⟩))) (mem_nil _)
  | cons s l ih =>
    intro lo lo' hl hm h
    cases m with
    | nil => exact absurd ((h s.1).1 (mem_cons.2 (Or.inl ⟨Nat.le_refl _, hl.2.1⟩))) (mem_nil _)
    | cons t m =>
      obtain ⟨a, b⟩ := s
      obtain ⟨c, d⟩ := t
      obtain ⟨-, hab, hb, hl⟩ := hl
      obtain ⟨-, hcd, hd, hm⟩ := hm
      simp only at hab hcd hb hd hl hm
      have ha : c ≤ a := by
        rcases mem_cons.1 ((h a).1 (mem_cons.2 (Or.inl ⟨Nat.le_refl _, hab⟩))) with ⟨x, _⟩ | x
        · exact x
        · have := hm.ge x; omega
      have hc : a ≤ c := by
        rcases mem_cons.1 ((h c).2 (mem_cons.2 (Or.inl ⟨Nat.le_refl _, hcd⟩))) with ⟨x, _⟩ | x
        · exact x
        · have := hl.ge x; omega
      obtain rfl : a = c := by omega
      have hbd : b = d := by
        rcases Nat.lt_trichotomy b d with hlt | heq | hlt
        · rcases mem_cons.1 ((h b).2 (mem_cons.2 (Or.inl ⟨Nat.le_of_lt hab, hlt⟩))) with ⟨_, x⟩ | x
          · simp only at x; omega
          · have := hl.ge x; omega
        · exact heq
        · rcases mem_cons.1 ((h d).1 (mem_cons.2 (Or.inl ⟨Nat.le_of_lt hcd, hlt⟩))) with ⟨_, x⟩ | x
          · simp only at x; omega
          · have := hm.ge x; omega
      subst hbd
      have : l = m := ih hl hm fun n => by
        constructor
        · intro hx
          have hg := hl.ge hx
          rcases mem_cons.1 ((h n).1 (mem_cons.2 (Or.inr hx))) with ⟨_, x⟩ | x
          · simp only at x; omega
          · exact x
        · intro hx
          have hg := hm.ge hx
          rcases mem_cons.1 ((h n).2 (mem_cons.2 (Or.inr hx))) with ⟨_, x⟩ | x
          · simp only at x; omega
          · exact x
      rw [this]

/-! ### Not -/
def notF (e : Nat) : List Span → List Span
  | [] => if e < ALL then [(e, ALL)] else []
  | s :: r => if e < s.1 then (e, s.1) :: notF s.2 r else notF s.2 r

theorem canon_notF : ∀ {l : List Span} {e : Nat}, Canon e l → Canon e (notF e l) := by
  intro l
  induction l with
  | nil =>
    intro e _
    unfold notF
    split
    · exact ⟨Nat.le_refl _, by assumption, Nat.le_refl _, trivial⟩
    · trivial
  | cons s r ih =>
    intro e h
    obtain ⟨h1, h2, h3, h4⟩ := h
    have hr := ih (h4.mono (Nat.le_succ _))
    unfold notF
    split
    · exact ⟨Nat.le_refl _, by assumption, by simp only; omega, hr.mono (by simp only; omega)⟩
    · exact hr.mono (by omega)

theorem mem_notF : ∀ {l : List Span} {e n : Nat}, Canon e l → (mem (notF e l) n ↔ (e ≤ n ∧ n < ALL ∧ ¬ mem l n)) := by
  intro l
  induction l with
  | nil =>
    intro e n _
    unfold notF
    split
    · rw [mem_cons]
      simp only [mem_nil, or_false, not_false_eq_true, and_true]
    · simp only [mem_nil, not_false_eq_true, and_true, false_iff]
      omega
  | cons s r ih =>
    intro e n h
    obtain ⟨h1, h2, h3, h4⟩ := h
    have hr := ih (n := n) (h4.mono (Nat.le_succ s.2))
    have hg : mem r n → s.2 + 1 ≤ n := h4.ge
    unfold notF
    rw [mem_cons (s := s)]
    split
    · rw [mem_cons, hr]
      simp only
      by_cases hm : mem r n
      · have := hg hm; simp [hm]; omega
      · simp only [hm, not_false_eq_true, and_true, or_false]; omega
    · rw [hr]
      by_cases hm : mem r n
      · simp [hm]
      · simp only [hm, not_false_eq_true, and_true, or_false]; omega

/-! ### Both -/
def andF : List Span → List Span → List Span
  | [], _ => []
  | _ :: _, [] => []
  | s :: r, t :: q =>
    (if max s.1 t.1 < min s.2 t.2 then [(max s.1 t.1, min s.2 t.2)] else []) ++ (if s.2 < t.2 then andF r (t :: q) else andF (s :: r) q)
termination_by l m => l.length + m.length

theorem andF_nil_right (l : List Span) : andF l [] = [] := by cases l <;> simp [andF]

theorem canon_if {lo : Nat} {c : Prop} [Decidable c] {s : Span} {r : List Span} (h1 : c → lo ≤ s.1 ∧ s.1 < s.2 ∧ s.2 ≤ ALL ∧ Canon (s.2 + 1) r) (h2 : ¬ c → Canon lo r) : Canon lo ((if c then [s] else []) ++ r) := by
  by_cases h : c
  · rw [if_pos h]; exact h1 h
  · rw [if_neg h]; exact h2 h
theorem mem_if {n : Nat} {c : Prop} [Decidable c] {s : Span} {r : List Span} : mem ((if c then [s] else []) ++ r) n ↔ (c ∧ s.1 ≤ n ∧ n < s.2) ∨ mem r n := by
  by_cases h : c
  · rw [if_pos h]; simp only [List.cons_append, List.nil_append, h, true_and]; exact mem_cons
  · rw [if_neg h]; simp [h]

theorem canon_andF : ∀ (k : Nat) {l m : List Span} {lo lo' : Nat}, l.length + m.length ≤ k → Canon lo l → Canon lo' m → Canon (max lo lo') (andF l m) := by
  intro k
  induction k with
  | zero =>
    intro l m lo lo' hk _ _
    obtain rfl : l = [] := List.length_eq_zero_iff.1 (by omega)
    simp only [andF]; trivial
  | succ k ih =>
    intro l m lo lo' hk hl hm
    cases l with
    | nil => simp only [andF]; trivial
    | cons s r =>
      cases m with
      | nil => simp only [andF]; trivial
      | cons t q =>
        rw [andF]
        simp only [List.length_cons] at hk
        have hl' := hl
        have hm' := hm
        obtain ⟨h1, h2, h3, h4⟩ := hl
        obtain ⟨g1, g2, g3, g4⟩ := hm
        by_cases hlt : s.2 < t.2
        · rw [if_pos hlt]
          have := ih (l := r) (m := t :: q) (lo := s.2 + 1) (lo' := t.1) (by simp only [List.length_cons]; omega) h4 ⟨Nat.le_refl _, g2, g3, g4⟩
          refine canon_if (fun hc => ⟨by simp only; omega, hc, by simp only; omega, this.mono (by simp only; omega)⟩) (fun hc => this.mono (by omega))
        · rw [if_neg hlt]
          have := ih (l := s :: r) (m := q) (lo := s.1) (lo' := t.2 + 1) (by simp only [List.length_cons]; omega) ⟨Nat.le_refl _, h2, h3, h4⟩ g4
          refine canon_if (fun hc => ⟨by simp only; omega, hc, by simp only; omega, this.mono (by simp only; omega)⟩) (fun hc => this.mono (by omega))

theorem mem_andF : ∀ (k : Nat) {l m : List Span} {lo lo' n : Nat}, l.length + m.length ≤ k → Canon lo l → Canon lo' m → (mem (andF l m) n ↔ mem l n ∧ mem m n) := by
  intro k
  induction k with
  | zero =>
    intro l m lo lo' n hk _ _
    obtain rfl : l = [] := List.length_eq_zero_iff.1 (by omega)
    simp only [andF, mem_nil, false_and]
  | succ k ih =>
    intro l m lo lo' n hk hl hm
    cases l with
    | nil => simp only [andF, mem_nil, false_and]
    | cons s r =>
      cases m with
      | nil => simp only [andF, mem_nil, and_false]
      | cons t q =>
        rw [andF, mem_if]
        simp only [List.length_cons] at hk
        obtain ⟨h1, h2, h3, h4⟩ := hl
        obtain ⟨g1, g2, g3, g4⟩ := hm
        have hr : mem r n → s.2 + 1 ≤ n := h4.ge
        have hq : mem q n → t.2 + 1 ≤ n := g4.ge
        by_cases hlt : s.2 < t.2
        · rw [if_pos hlt, ih (l := r) (m := t :: q) (lo := s.2 + 1) (lo' := t.1) (by simp only [List.length_cons]; omega) h4 ⟨Nat.le_refl _, g2, g3, g4⟩, mem_cons, mem_cons]
          by_cases a : mem r n <;> by_cases b : mem q n <;> simp only [a, b, or_true, or_false, and_true, true_and, false_and] <;> (try have := hr a) <;> (try have := hq b) <;> omega
        · rw [if_neg hlt, ih (l := s :: r) (m := q) (lo := s.1) (lo' := t.2 + 1) (by simp only [List.length_cons]; omega) ⟨Nat.le_refl _, h2, h3, h4⟩ g4, mem_cons, mem_cons]
          by_cases a : mem r n <;> by_cases b : mem q n <;> simp only [a, b, or_true, or_false, and_true, and_false, true_and] <;> (try have := hr a) <;> (try have := hq b) <;> omega

/-! ### Ranges -/
/-- A range: rising from 0 on. -/
abbrev Rg (l : List Span) : Prop := Canon 0 l
def nt (l : List Span) : List Span := notF 0 l
def nd (l m : List Span) : List Span := andF l m
def orr (l m : List Span) : List Span := nt (nd (nt l) (nt m))
def rowF (a b : Nat) : List Span := if a < b then [(a, b)] else []
def anyF : List Span := [(0, ALL)]

theorem rg_any : Rg anyF := ⟨Nat.le_refl _, by decide, Nat.le_refl _, trivial⟩
theorem rg_nil : Rg [] := trivial
theorem rg_row {a b : Nat} (h : b ≤ ALL) : Rg (rowF a b) := by
  unfold rowF; split
  · exact ⟨Nat.zero_le _, by assumption, h, trivial⟩
  · trivial
theorem rg_nt {l : List Span} (h : Rg l) : Rg (nt l) := canon_notF h
theorem rg_nd {l m : List Span} (h : Rg l) (h' : Rg m) : Rg (nd l m) := (canon_andF _ (Nat.le_refl _) h h').mono (Nat.zero_le _)
theorem rg_orr {l m : List Span} (h : Rg l) (h' : Rg m) : Rg (orr l m) := rg_nt (rg_nd (rg_nt h) (rg_nt h'))
theorem mem_any {n : Nat} : mem anyF n ↔ n < ALL := by unfold anyF; rw [mem_cons]; simp [mem_nil]
theorem mem_row {a b n : Nat} : mem (rowF a b) n ↔ a ≤ n ∧ n < b := by
  unfold rowF; split
  · rw [mem_cons]; simp [mem_nil]
  · simp only [mem_nil, false_iff]; omega
theorem mem_nt {l : List Span} {n : Nat} (h : Rg l) : mem (nt l) n ↔ n < ALL ∧ ¬ mem l n := by
  unfold nt; rw [mem_notF h]; simp
theorem mem_nd {l m : List Span} {n : Nat} (h : Rg l) (h' : Rg m) : mem (nd l m) n ↔ mem l n ∧ mem m n := mem_andF _ (Nat.le_refl _) h h'
theorem mem_orr {l m : List Span} {n : Nat} (h : Rg l) (h' : Rg m) : mem (orr l m) n ↔ mem l n ∨ mem m n := by
  unfold orr
  rw [mem_nt (rg_nd (rg_nt h) (rg_nt h')), mem_nd (rg_nt h) (rg_nt h'), mem_nt h, mem_nt h']
  have h1 : mem l n → n < ALL := h.lt
  have h2 : mem m n → n < ALL := h'.lt
  by_cases a : mem l n <;> by_cases b : mem m n <;> by_cases c : n < ALL <;> simp_all

theorem rg_ext {l m : List Span} (h : Rg l) (h' : Rg m) (e : ∀ n, mem l n ↔ mem m n) : l = m := canon_ext h h' e

/-! ### BOOLE and DE MORGAN -/
theorem boole1 {r s : List Span} (hr : Rg r) (hs : Rg s) : nt (nd r s) = orr (nt r) (nt s) :=
  rg_ext (rg_nt (rg_nd hr hs)) (rg_orr (rg_nt hr) (rg_nt hs)) fun n => by
    rw [mem_nt (rg_nd hr hs), mem_nd hr hs, mem_orr (rg_nt hr) (rg_nt hs), mem_nt hr, mem_nt hs]
    by_cases a : mem r n <;> by_cases b : mem s n <;> simp [a, b]
theorem boole2 {r : List Span} (hr : Rg r) : nt (nt r) = r :=
  rg_ext (rg_nt (rg_nt hr)) hr fun n => by
    rw [mem_nt (rg_nt hr), mem_nt hr]
    have := hr.lt (n := n)
    by_cases a : mem r n <;> simp_all
theorem boole3 {r s t : List Span} (hr : Rg r) (hs : Rg s) (ht : Rg t) : nd r (orr s t) = orr (nd r s) (nd r t) :=
  rg_ext (rg_nd hr (rg_orr hs ht)) (rg_orr (rg_nd hr hs) (rg_nd hr ht)) fun n => by
    rw [mem_nd hr (rg_orr hs ht), mem_orr hs ht, mem_orr (rg_nd hr hs) (rg_nd hr ht), mem_nd hr hs, mem_nd hr ht]
    by_cases a : mem r n <;> simp [a]
theorem boole4 {r : List Span} (hr : Rg r) : orr r (nt r) = anyF :=
  rg_ext (rg_orr hr (rg_nt hr)) rg_any fun n => by
    rw [mem_orr hr (rg_nt hr), mem_nt hr, mem_any]
    have := hr.lt (n := n)
    by_cases a : mem r n <;> simp_all
theorem boole5 {r : List Span} (hr : Rg r) : nd r (nt r) = [] :=
  rg_ext (rg_nd hr (rg_nt hr)) rg_nil fun n => by
    rw [mem_nd hr (rg_nt hr), mem_nt hr]
    by_cases a : mem r n <;> simp [a, mem_nil]
theorem boole6 {r s : List Span} (hr : Rg r) (hs : Rg s) : orr r s = orr s r :=
  rg_ext (rg_orr hr hs) (rg_orr hs hr) fun n => by
    rw [mem_orr hr hs, mem_orr hs hr]
    exact Or.comm
end Go.Proofs.YtbohpflbifoohaaGreatDoor.Sv
