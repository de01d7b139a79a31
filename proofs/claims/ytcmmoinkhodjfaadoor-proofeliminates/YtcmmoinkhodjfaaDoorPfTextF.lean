/- Clauses as texts: no two have the same. Plain. -/
import Derived.Lib.Join
import Derived.Lib.ItoaNum
import Derived.Test.YtcmmoinkhodjfaaDoorPfForm
namespace Go.Proofs.YtcmmoinkhodjfaaDoor
open Go.RowKit

def dig2 (i : Nat) : List UInt8 := if i < 10 then [UInt8.ofNat (48 + i)] else [UInt8.ofNat (48 + i / 10), UInt8.ofNat (48 + i % 10)]
def itoa2 (x : Int) : List UInt8 := if x < 0 then 45 :: dig2 x.natAbs else dig2 x.toNat
theorem dig2_is {i : Nat} (h : i < 100) : Lib.decDigits i = dig2 i := by
  unfold dig2
  by_cases h1 : i < 10
  · rw [if_pos h1, Lib.decDigits_one h1]
  · rw [if_neg h1, Lib.decDigits_two h1 h]
theorem itoa2_is {x : Int} (h1 : -24 ≤ x) (h2 : x ≤ 24) : Lib.itoa x = itoa2 x := by
  unfold Lib.itoa itoa2
  by_cases h : x < 0
  · rw [if_pos h, if_pos h, dig2_is (by omega)]
  · rw [if_neg h, if_neg h, dig2_is (by omega)]
theorem itoa2_all : ∀ i : Fin 49, itoa2 ((i.1 : Int) - 24) ≠ [] ∧ (32 : UInt8) ∉ itoa2 ((i.1 : Int) - 24) := by decide +kernel
theorem itoa2_inj : ∀ i : Fin 49, ∀ j : Fin 49, itoa2 ((i.1 : Int) - 24) = itoa2 ((j.1 : Int) - 24) → i = j := by decide +kernel
def Near (x : Int) : Prop := -24 ≤ x ∧ x ≤ 24
theorem itoa_blank {x : Int} (h : Near x) : Lib.itoa x ≠ [] ∧ (32 : UInt8) ∉ Lib.itoa x := by
  rw [itoa2_is h.1 h.2]
  have := itoa2_all ⟨(x + 24).toNat, by have := h.1; have := h.2; omega⟩
  have e : (((x + 24).toNat : Nat) : Int) - 24 = x := by have := h.1; omega
  simp only [e] at this
  exact this
theorem itoa_near {x y : Int} (hx : Near x) (hy : Near y) (h : Lib.itoa x = Lib.itoa y) : x = y := by
  rw [itoa2_is hx.1 hx.2, itoa2_is hy.1 hy.2] at h
  have ex : (((x + 24).toNat : Nat) : Int) - 24 = x := by have := hx.1; omega
  have ey : (((y + 24).toNat : Nat) : Int) - 24 = y := by have := hy.1; omega
  have := itoa2_inj ⟨(x + 24).toNat, by have := hx.1; have := hx.2; omega⟩ ⟨(y + 24).toNat, by have := hy.1; have := hy.2; omega⟩ (by simp only [ex, ey]; exact h)
  injection this with this
  have h1 := hx.1
  have h2 := hy.1
  omega
def Blank (s : List UInt8) : Prop := s = [] ∨ ∃ s', s = 32 :: s'
theorem split32 : ∀ {u v s t : List UInt8}, (32 : UInt8) ∉ u → (32 : UInt8) ∉ v → Blank s → Blank t → u ++ s = v ++ t → u = v ∧ s = t
  | [], [], _, _, _, _, _, _, h => ⟨rfl, h⟩
  | [], b :: v, s, t, _, hv, hs, _, h => by
    exfalso
    rcases hs with rfl | ⟨s', rfl⟩
    · cases h
    · simp only [List.nil_append, List.cons_append, List.cons.injEq] at h
      exact hv (by rw [h.1]; exact List.mem_cons_self)
  | a :: u, [], s, t, hu, _, _, ht, h => by
    exfalso
    rcases ht with rfl | ⟨t', rfl⟩
    · cases h
    · simp only [List.nil_append, List.cons_append, List.cons.injEq] at h
      exact hu (by rw [← h.1]; exact List.mem_cons_self)
  | a :: u, b :: v, s, t, hu, hv, hs, ht, h => by
    simp only [List.cons_append, List.cons.injEq] at h
    obtain ⟨h1, h2⟩ := split32 (fun hm => hu (List.mem_cons_of_mem _ hm)) (fun hm => hv (List.mem_cons_of_mem _ hm)) hs ht h.2
    exact ⟨by rw [h.1, h1], h2⟩
theorem tail_cons (y : List UInt8) (r : List (List UInt8)) : Lib.joinTail [32] (y :: r) = 32 :: (y ++ Lib.joinTail [32] r) := by simp [Lib.joinTail]
theorem tail_blank (r : List (List UInt8)) : Blank (Lib.joinTail [32] r) := by
  cases r with
  | nil => exact Or.inl rfl
  | cons y r => exact Or.inr ⟨_, tail_cons y r⟩
theorem tail_inj : ∀ {c d : List Int}, (∀ x ∈ c, Near x) → (∀ x ∈ d, Near x) → Lib.joinTail [32] (c.map Lib.itoa) = Lib.joinTail [32] (d.map Lib.itoa) → c = d
  | [], [], _, _, _ => rfl
  | [], y :: d, _, _, h => by rw [List.map_cons, tail_cons] at h; cases h
  | x :: c, [], _, _, h => by rw [List.map_cons, tail_cons] at h; cases h
  | x :: c, y :: d, hc, hd, h => by
    rw [List.map_cons, List.map_cons, tail_cons, tail_cons] at h
    injection h with _ h
    obtain ⟨h1, h2⟩ := split32 (itoa_blank (hc x List.mem_cons_self)).2 (itoa_blank (hd y List.mem_cons_self)).2 (tail_blank _) (tail_blank _) h
    rw [itoa_near (hc x List.mem_cons_self) (hd y List.mem_cons_self) h1, tail_inj (fun z hz => hc z (List.mem_cons_of_mem _ hz)) (fun z hz => hd z (List.mem_cons_of_mem _ hz)) h2]
def toldF (c : List Int) : List UInt8 := Lib.join (c.map Lib.itoa) [32]
theorem told_inj {c d : List Int} (hc : ∀ x ∈ c, Near x) (hd : ∀ x ∈ d, Near x) (h : toldF c = toldF d) : c = d := by
  unfold toldF at h
  cases c with
  | nil =>
    cases d with
    | nil => rfl
    | cons y d =>
      rw [List.map_nil, Lib.join_nil, List.map_cons, Lib.join_cons] at h
      exact absurd (List.append_eq_nil_iff.1 h.symm).1 (itoa_blank (hd y List.mem_cons_self)).1
  | cons x c =>
    cases d with
    | nil =>
      rw [List.map_nil, Lib.join_nil, List.map_cons, Lib.join_cons] at h
      exact absurd (List.append_eq_nil_iff.1 h).1 (itoa_blank (hc x List.mem_cons_self)).1
    | cons y d =>
      rw [List.map_cons, List.map_cons, Lib.join_cons, Lib.join_cons] at h
      obtain ⟨h1, h2⟩ := split32 (itoa_blank (hc x List.mem_cons_self)).2 (itoa_blank (hd y List.mem_cons_self)).2 (tail_blank _) (tail_blank _) h
      rw [itoa_near (hc x List.mem_cons_self) (hd y List.mem_cons_self) h1, tail_inj (fun z hz => hc z (List.mem_cons_of_mem _ hz)) (fun z hz => hd z (List.mem_cons_of_mem _ hz)) h2]
end Go.Proofs.YtcmmoinkhodjfaaDoor
