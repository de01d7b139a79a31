/- What is told, and what follows from it: plain. -/
import Derived.Test.YtcmmoinkhodjfaaDoorClLit
namespace Go.Proofs.YtcmmoinkhodjfaaDoor
open Go.RowKit

/-- What is told of variable i: 1: it is true; -1: it is false; 0: nothing. -/
def tv (told : List Int) (i : Nat) : Int := if ((i : Int) + 1) ∈ told then 1 else if -((i : Int) + 1) ∈ told then -1 else 0
/-- Of a literal. -/
def sideF (told : List Int) (x : Int) : Int := if x ∈ told then 1 else if -x ∈ told then -1 else 0
def Cons (told : List Int) : Prop := ∀ x ∈ told, -x ∉ told
def Lits (v : Int) (xs : List Int) : Prop := ∀ x ∈ xs, litB v x = true

theorem litB_iff {v x : Int} : litB v x = true ↔ x ≠ 0 ∧ -v ≤ x ∧ x ≤ v := by simp [litB]

theorem side_pos (told : List Int) (t : Nat) : sideF told ((t : Int) + 1) = tv told t := rfl
theorem side_neg {told : List Int} (hc : Cons told) (t : Nat) : sideF told (-((t : Int) + 1)) = - tv told t := by
  unfold sideF tv
  rw [Int.neg_neg]
  by_cases h1 : ((t : Int) + 1) ∈ told
  · have h2 := hc _ h1
    rw [if_pos h1, if_neg h2, if_pos h1]
  · by_cases h2 : -((t : Int) + 1) ∈ told
    · rw [if_pos h2, if_neg h1, if_pos h2]; rfl
    · rw [if_neg h2, if_neg h1, if_neg h1, if_neg h2]; rfl
theorem tv_bound (told : List Int) (t : Nat) : -1 ≤ tv told t ∧ tv told t ≤ 1 := by
  unfold tv; split
  · omega
  · split <;> omega
theorem side_bound (told : List Int) (x : Int) : sideF told x = -1 ∨ sideF told x = 0 ∨ sideF told x = 1 := by
  unfold sideF; split
  · omega
  · split <;> omega
theorem side_zero {told : List Int} {x : Int} : sideF told x = 0 ↔ x ∉ told ∧ -x ∉ told := by
  unfold sideF
  by_cases h1 : x ∈ told
  · simp [h1]
  · by_cases h2 : -x ∈ told
    · simp [h1, h2]
    · simp [h1, h2]
theorem side_one {told : List Int} {x : Int} : 0 < sideF told x ↔ x ∈ told := by
  unfold sideF
  by_cases h1 : x ∈ told
  · simp [h1]
  · by_cases h2 : -x ∈ told <;> simp [h1, h2]
theorem side_ge {told : List Int} (hc : Cons told) {x : Int} : 0 ≤ sideF told x ↔ -x ∉ told := by
  unfold sideF
  by_cases h1 : x ∈ told
  · have := hc x h1
    simp [h1, this]
  · by_cases h2 : -x ∈ told <;> simp [h1, h2]

/-- The literal by which alone a clause can hold (0: by none), and whether that is so. -/
def moreF (told : List Int) (one x : Int) : Bool := decide (0 < sideF told x) || (decide (sideF told x = 0) && x != one)
def onlyF (told : List Int) (c : List Int) : Int × Bool :=
  if idxF (fun x => decide (0 ≤ sideF told x)) c < 0 then (0, true)
  else if (c.drop (idxF (fun x => decide (0 ≤ sideF told x)) c).toNat).any (moreF told (c.getD (idxF (fun x => decide (0 ≤ sideF told x)) c).toNat 0)) then (0, false)
  else (c.getD (idxF (fun x => decide (0 ≤ sideF told x)) c).toNat 0, true)

theorem idxF_cases {α : Type} (p : α → Bool) (xs : List α) (d : α) : (idxF p xs = -1 ∧ ∀ x ∈ xs, p x = false) ∨ ∃ k : Nat, idxF p xs = (k : Int) ∧ k < xs.length ∧ p (xs.getD k d) = true ∧ ∀ x ∈ xs.take k, p x = false := by
  unfold idxF
  cases h : xs.findIdx? p with
  | none => exact Or.inl ⟨rfl, fun x hx => by simpa using List.findIdx?_eq_none_iff.1 h x hx⟩
  | some k =>
    rw [List.findIdx?_eq_some_iff_getElem] at h
    obtain ⟨hk, hp, hj⟩ := h
    refine Or.inr ⟨k, rfl, hk, by rw [List.getD_eq_getElem?_getD, List.getElem?_eq_getElem hk]; exact hp, fun x hx => ?_⟩
    obtain ⟨j, hjk, rfl⟩ := List.getElem_of_mem hx
    rw [List.length_take] at hjk
    rw [List.getElem_take]
    simpa using hj j (by omega)

/-- What only tells. -/
inductive OnlyIs (told c : List Int) : Int × Bool → Prop
  | none (h : ∀ x ∈ c, x ∉ told ∧ -x ∈ told) : OnlyIs told c (0, true)
  | one {x : Int} (hx : x ∈ c) (h0 : x ∉ told) (h1 : -x ∉ told) (h : ∀ y ∈ c, y ≠ x → y ∉ told ∧ -y ∈ told) : OnlyIs told c (x, true)
  | held {x : Int} (hx : x ∈ c) (h : x ∈ told) : OnlyIs told c (0, false)
  | two {x y : Int} (hx : x ∈ c) (hy : y ∈ c) (hne : x ≠ y) (h0 : x ∉ told) (h1 : -x ∉ told) (h2 : y ∉ told) (h3 : -y ∉ told) : OnlyIs told c (0, false)

theorem only_is {told c : List Int} (hc : Cons told) : OnlyIs told c (onlyF told c) := by
  unfold onlyF
  have hng : ∀ x, (decide (0 ≤ sideF told x)) = false ↔ -x ∈ told := fun x => by
    rw [decide_eq_false_iff_not, side_ge hc, Classical.not_not]
  have hnt : ∀ x, -x ∈ told → x ∉ told := fun x h h2 => hc x h2 h
  rcases idxF_cases (fun x => decide (0 ≤ sideF told x)) c 0 with ⟨hi, h⟩ | ⟨k, hi, hk, hp, hl⟩
  · rw [hi, if_pos (by omega)]
    exact .none fun x hx => ⟨hnt x ((hng x).1 (h x hx)), (hng x).1 (h x hx)⟩
  · rw [hi, if_neg (by omega), Int.toNat_natCast]
    have hm : c.getD k 0 ∈ c := getD_mem hk
    have hpo : -(c.getD k 0) ∉ told := (side_ge hc).1 (of_decide_eq_true hp)
    by_cases hany : (c.drop k).any (moreF told (c.getD k 0)) = true
    · rw [if_pos hany]
      obtain ⟨y, hy, hmo⟩ := List.any_eq_true.1 hany
      have hyc := List.mem_of_mem_drop hy
      unfold moreF at hmo
      rw [Bool.or_eq_true, Bool.and_eq_true] at hmo
      rcases hmo with h1 | ⟨h1, h2⟩
      · exact .held hyc (side_one.1 (of_decide_eq_true h1))
      · have h3 := side_zero.1 (of_decide_eq_true h1)
        by_cases hot : c.getD k 0 ∈ told
        · exact .held hm hot
        · exact .two hm hyc (fun e => by rw [← e, bne_self_eq_false] at h2; cases h2) hot hpo h3.1 h3.2
    · rw [if_neg hany]
      have hany' : ∀ y ∈ c.drop k, moreF told (c.getD k 0) y = false := fun y hy => by
        cases hh : moreF told (c.getD k 0) y with
        | false => rfl
        | true => exact absurd (List.any_eq_true.2 ⟨y, hy, hh⟩) hany
      have hot : c.getD k 0 ∉ told := fun h => by
        have := hany' (c.getD k 0) (by
          rw [List.getD_eq_getElem?_getD, List.getElem?_eq_getElem hk]
          exact List.mem_drop_iff_getElem.2 ⟨0, by omega, by simp⟩)
        unfold moreF at this
        rw [Bool.or_eq_false_iff] at this
        exact (of_decide_eq_false this.1) (side_one.2 h)
      refine .one hm hot hpo fun y hy hne => ?_
      rw [← List.take_append_drop k c, List.mem_append] at hy
      rcases hy with hy | hy
      · have := (hng y).1 (hl y hy)
        exact ⟨hnt y this, this⟩
      · have := hany' y hy
        unfold moreF at this
        rw [Bool.or_eq_false_iff, Bool.and_eq_false_iff] at this
        have h1 := of_decide_eq_false this.1
        have h2 : sideF told y ≠ 0 := by
          rcases this.2 with h | h
          · exact of_decide_eq_false h
          · simp at h; exact absurd h hne
        have h3 : -y ∈ told := by
          by_cases hm : -y ∈ told
          · exact hm
          · exact absurd (side_zero.2 ⟨fun h => h1 (side_one.2 h), hm⟩) h2
        exact ⟨hnt y h3, h3⟩

/-- The first clause that can't hold (with 0), or that can by one literal alone; -1: none. -/
def nextF (told : List Int) (l : List (List Int)) : Int × Int :=
  match l.findIdx? (fun c => (onlyF told c).2) with | some i => ((i : Int), (onlyF told (l.getD i [])).1) | none => (-1, 0)
theorem nextF_hit {told : List Int} {l : List (List Int)} {k : Nat} (h0 : ∀ j, j < k → (onlyF told (l.getD j [])).2 = false) (hk : k < l.length) (h1 : (onlyF told (l.getD k [])).2 = true) : nextF told l = ((k : Int), (onlyF told (l.getD k [])).1) := by
  have : l.findIdx? (fun c => (onlyF told c).2) = some k := by
    rw [List.findIdx?_eq_some_iff_getElem]
    refine ⟨hk, ?_, fun j hj => ?_⟩
    · rw [List.getD_eq_getElem?_getD, List.getElem?_eq_getElem hk] at h1; exact h1
    · have := h0 j hj
      rw [List.getD_eq_getElem?_getD, List.getElem?_eq_getElem (by omega)] at this
      simpa using this
  unfold nextF; rw [this]
theorem nextF_none {told : List Int} {l : List (List Int)} (h0 : ∀ j, j < l.length → (onlyF told (l.getD j [])).2 = false) : nextF told l = (-1, 0) := by
  have : l.findIdx? (fun c => (onlyF told c).2) = none := by
    rw [List.findIdx?_eq_none_iff]
    intro x hx
    obtain ⟨j, hj, rfl⟩ := List.getElem_of_mem hx
    have := h0 j hj
    rw [List.getD_eq_getElem?_getD, List.getElem?_eq_getElem hj] at this
    simpa using this
  unfold nextF; rw [this]

/-- What next tells. -/
inductive NextIs (told : List Int) (l : List (List Int)) : Int × Int → Prop
  | none (h : ∀ c ∈ l, (∃ x ∈ c, x ∈ told) ∨ ∃ x ∈ c, ∃ y ∈ c, x ≠ y ∧ x ∉ told ∧ -x ∉ told ∧ y ∉ told ∧ -y ∉ told) : NextIs told l (-1, 0)
  | bad {k : Nat} (hk : k < l.length) (h : ∀ x ∈ l.getD k [], x ∉ told ∧ -x ∈ told) : NextIs told l ((k : Int), 0)
  | one {k : Nat} {x : Int} (hk : k < l.length) (hx : x ∈ l.getD k []) (h0 : x ∉ told) (h1 : -x ∉ told) (h : ∀ y ∈ l.getD k [], y ≠ x → y ∉ told ∧ -y ∈ told) : NextIs told l ((k : Int), x)
theorem next_is {told : List Int} {l : List (List Int)} (hc : Cons told) : NextIs told l (nextF told l) := by
  unfold nextF
  cases h : l.findIdx? (fun c => (onlyF told c).2) with
  | none =>
    rw [List.findIdx?_eq_none_iff] at h
    refine .none fun c hcl => ?_
    have h1 := h c hcl
    have h2 := only_is (c := c) hc
    generalize onlyF told c = r at *
    cases h2 with
    | none => simp at h1
    | one => simp at h1
    | held hx h => exact Or.inl ⟨_, hx, h⟩
    | two hx hy hne q0 q1 q2 q3 => exact Or.inr ⟨_, hx, _, hy, hne, q0, q1, q2, q3⟩
  | some k =>
    rw [List.findIdx?_eq_some_iff_getElem] at h
    obtain ⟨hk, hp, -⟩ := h
    have e : l.getD k [] = l[k] := by rw [List.getD_eq_getElem?_getD, List.getElem?_eq_getElem hk]; rfl
    rw [← e] at hp
    have h2 := only_is (c := l.getD k []) hc
    show NextIs told l ((k : Int), (onlyF told (l.getD k [])).1)
    generalize onlyF told (l.getD k []) = r at *
    cases h2 with
    | none h => exact .bad hk h
    | one hx h0 h1 h => exact .one hk hx h0 h1 h
    | held => simp at hp
    | two => simp at hp

/-! ### Spreading -/
inductive Spread (l : List (List Int)) : List Int → List Int → Int → Prop
  | stop {told : List Int} {i : Int} (h : nextF told l = (i, 0)) : Spread l told told i
  | step {told t : List Int} {i x b : Int} (h : nextF told l = (i, x)) (hx : x ≠ 0) (hs : Spread l (told ++ [x]) t b) : Spread l told t b

theorem Spread.at_stop {l : List (List Int)} {told t : List Int} {i b : Int} (h : Spread l told t b) (hn : nextF told l = (i, 0)) : t = told ∧ b = i := by
  cases h with
  | stop h => rw [hn] at h; cases h; exact ⟨rfl, rfl⟩
  | step h hx _ => rw [hn] at h; cases h; exact absurd rfl hx
theorem Spread.at_step {l : List (List Int)} {told t : List Int} {i x b : Int} (h : Spread l told t b) (hn : nextF told l = (i, x)) (hx : x ≠ 0) : Spread l (told ++ [x]) t b := by
  cases h with
  | stop h => rw [hn] at h; cases h; exact absurd rfl hx
  | step h _ hs => rw [hn] at h; cases h; exact hs

/-- How many variables nothing is told of. -/
def free (told : List Int) : Nat := (List.range 24).countP (fun i => tv told i == 0)

theorem countP_lt {p q : Nat → Bool} {l : List Nat} (h : ∀ x ∈ l, q x = true → p x = true) {j : Nat} (hj : j ∈ l) (hp : p j = true) (hq : q j = false) : l.countP q < l.countP p := by
  induction l with
  | nil => cases hj
  | cons a l ih =>
    have hle : l.countP q ≤ l.countP p := List.countP_mono_left fun x hx => h x (List.mem_cons_of_mem _ hx)
    rw [List.countP_cons, List.countP_cons]
    by_cases e : a = j
    · subst e; rw [hp, hq]; simp; omega
    · have := ih (fun x hx => h x (List.mem_cons_of_mem _ hx)) (by cases hj with | head => exact absurd rfl e | tail _ h => exact h)
      have ha := h a (List.mem_cons_self)
      cases hqa : q a with
      | true => rw [ha hqa]; simp; omega
      | false => cases p a <;> simp <;> omega

theorem tv_tell {told : List Int} {x : Int} (hn : -x ∉ told) (i : Nat) : tv (told ++ [x]) i = if (i : Int) + 1 = x then 1 else if (i : Int) + 1 = -x then -1 else tv told i := by
  unfold tv
  simp only [List.mem_append, List.mem_singleton]
  by_cases h1 : (i : Int) + 1 = x
  · rw [if_pos (Or.inr h1), if_pos h1]
  · rw [if_neg h1]
    by_cases h2 : (i : Int) + 1 = -x
    · have h0 : (i : Int) + 1 ∉ told := by rw [h2]; exact hn
      rw [if_pos h2, if_neg (by rintro (h | h); exact h0 h; exact h1 h), if_pos (Or.inr (by omega))]
    · rw [if_neg h2]
      have h3 : ¬ -((i : Int) + 1) = x := by omega
      have e1 : ((i : Int) + 1 ∈ told ∨ (i : Int) + 1 = x) ↔ (i : Int) + 1 ∈ told := ⟨fun h => h.resolve_right h1, Or.inl⟩
      have e2 : (-((i : Int) + 1) ∈ told ∨ -((i : Int) + 1) = x) ↔ -((i : Int) + 1) ∈ told := ⟨fun h => h.resolve_right h3, Or.inl⟩
      simp only [e1, e2]
theorem tv_zero {told : List Int} {i : Nat} : tv told i = 0 ↔ (i : Int) + 1 ∉ told ∧ -((i : Int) + 1) ∉ told := by
  show sideF told ((i : Int) + 1) = 0 ↔ _
  exact side_zero

theorem free_tell {told : List Int} {x : Int} (hl : litB 24 x = true) (h0 : x ∉ told) (h1 : -x ∉ told) : free (told ++ [x]) < free told := by
  rw [litB_iff] at hl
  have ht := tv_tell h1
  unfold free
  refine countP_lt (j := (if 0 < x then x else -x).toNat - 1) (fun i _ hi => ?_) (List.mem_range.2 (by split <;> omega)) ?_ ?_
  · have hi' : tv (told ++ [x]) i = 0 := by simpa using hi
    rw [ht] at hi'
    by_cases e1 : (i : Int) + 1 = x
    · rw [if_pos e1] at hi'; cases hi'
    · by_cases e2 : (i : Int) + 1 = -x
      · rw [if_neg e1, if_pos e2] at hi'; cases hi'
      · rw [if_neg e1, if_neg e2] at hi'; simpa using hi'
  · have : tv told ((if 0 < x then x else -x).toNat - 1) = 0 := by
      rw [tv_zero]
      by_cases hp : 0 < x
      · rw [if_pos hp, show ((x.toNat - 1 : Nat) : Int) + 1 = x by omega]; exact ⟨h0, h1⟩
      · rw [if_neg hp, show (((-x).toNat - 1 : Nat) : Int) + 1 = -x by omega, Int.neg_neg]; exact ⟨h1, h0⟩
    simpa using this
  · have : tv (told ++ [x]) ((if 0 < x then x else -x).toNat - 1) ≠ 0 := by
      rw [ht]
      by_cases hp : 0 < x
      · rw [if_pos hp, if_pos (by omega)]; omega
      · rw [if_neg hp, if_neg (by omega), if_pos (by omega)]; omega
    simpa using this

theorem cons_tell {told : List Int} {x : Int} (hc : Cons told) (hx : x ≠ 0) (h1 : -x ∉ told) : Cons (told ++ [x]) := by
  intro y hy hn
  simp only [List.mem_append, List.mem_singleton] at hy hn
  rcases hy with hy | hy
  · rcases hn with hn | hn
    · exact hc y hy hn
    · exact h1 (by rw [show -x = y by omega]; exact hy)
  · rcases hn with hn | hn
    · rw [hy] at hn; exact h1 hn
    · omega
theorem lits_tell {v : Int} {told : List Int} {x : Int} (hc : Lits v told) (hx : litB v x = true) : Lits v (told ++ [x]) := by
  intro y hy
  simp only [List.mem_append, List.mem_singleton] at hy
  rcases hy with hy | hy
  · exact hc y hy
  · rw [hy]; exact hx
theorem cons_nil : Cons [] := fun x hx => by cases hx
theorem lits_nil (v : Int) : Lits v [] := fun x hx => by cases hx
def LitsL (v : Int) (l : List (List Int)) : Prop := ∀ c ∈ l, Lits v c
theorem lit_24 {v x : Int} (hv : v ≤ 24) (h : litB v x = true) : litB 24 x = true := by
  rw [litB_iff] at *; omega

theorem spread_ex {l : List (List Int)} {v : Int} (hv : v ≤ 24) (hl : LitsL v l) : ∀ (n : Nat) (told : List Int), free told ≤ n → Cons told → Lits v told → ∃ t b, Spread l told t b := by
  intro n
  induction n with
  | zero =>
    intro told hf hc hs
    have hn := next_is (l := l) hc
    generalize e : nextF told l = r at hn
    cases hn with
    | none => exact ⟨_, _, .stop e⟩
    | bad => exact ⟨_, _, .stop e⟩
    | one hk hx h0 h1 _ =>
      have := free_tell (lit_24 hv (hl _ (getD_mem hk) _ hx)) h0 h1
      omega
  | succ n ih =>
    intro told hf hc hs
    have hn := next_is (l := l) hc
    generalize e : nextF told l = r at hn
    cases hn with
    | none => exact ⟨_, _, .stop e⟩
    | bad => exact ⟨_, _, .stop e⟩
    | one hk hx h0 h1 _ =>
      have hlx := hl _ (getD_mem hk) _ hx
      have hx0 := (litB_iff.1 hlx).1
      have := free_tell (lit_24 hv hlx) h0 h1
      obtain ⟨t, b, hs⟩ := ih _ (by omega) (cons_tell hc hx0 h1) (lits_tell hs hlx)
      exact ⟨t, b, .step e hx0 hs⟩

/-- What a step of spreading tells. -/
theorem next_step {l : List (List Int)} {v : Int} (hl : LitsL v l) {told : List Int} (hc : Cons told) (hs : Lits v told) {i x : Int} (e : nextF told l = (i, x)) (hx : x ≠ 0) : litB v x = true ∧ x ∉ told ∧ -x ∉ told ∧ Cons (told ++ [x]) ∧ Lits v (told ++ [x]) := by
  have hn := next_is (l := l) hc
  rw [e] at hn
  cases hn with
  | none => exact absurd rfl hx
  | bad => exact absurd rfl hx
  | one hk hxc h0 h1 _ =>
    have hlx := hl _ (getD_mem hk) _ hxc
    exact ⟨hlx, h0, h1, cons_tell hc hx h1, lits_tell hs hlx⟩

theorem Spread.good {l : List (List Int)} {v : Int} (hl : LitsL v l) {told t : List Int} {b : Int} (h : Spread l told t b) (hc : Cons told) (hs : Lits v told) : Cons t ∧ Lits v t := by
  induction h with
  | stop _ => exact ⟨hc, hs⟩
  | step e hx _ ih =>
    obtain ⟨_, _, _, h4, h5⟩ := next_step hl hc hs e hx
    exact ih h4 h5
end Go.Proofs.YtcmmoinkhodjfaaDoor
