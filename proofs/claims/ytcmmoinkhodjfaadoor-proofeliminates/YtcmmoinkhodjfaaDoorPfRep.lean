/- Maps as lists of pairs. -/
import Derived.Test.YtcmmoinkhodjfaaDoorClRow
import Derived.DeepKeys4
import Derived.Maps.OwnSet
import Derived.Maps.OwnOps
namespace Go.Proofs.YtcmmoinkhodjfaaDoor
open Go.RowKit Go.Maps

theorem wf_of {x : Int} (h : I64 x) : (Lit.int .i64 x).wf = true := by
  obtain ⟨h0, h1⟩ := h
  simp [Lit.wf, IntKind.min, IntKind.max, IntKind.signed, IntKind.bits]
  omega
/-! ### A map as a list of pairs -/
/-- D holds just these pairs, each key once. 'kl': a key as it reads; 'el': an element. -/
structure Rep {α β : Type} (ok : α → Prop) (kl : α → Lit) (el : β → DataW Unit) (D : DataW Unit) (L : List (α × β)) : Prop where
  tidy : Tidy D
  size : Maps.size D = L.length
  oks : ∀ p ∈ L, ok p.1
  has : ∀ a, ok a → (Maps.has D (kl a) = true ↔ a ∈ L.map Prod.fst)
  all : ∀ x, Maps.has D x = true → ∃ p ∈ L, x = kl p.1
  at' : ∀ p ∈ L, ∀ z, D.atKey (kl p.1) z = el p.2
  nodup : (L.map Prod.fst).Nodup

section
variable {α β : Type} {ok : α → Prop} {kl : α → Lit} {el : β → DataW Unit} {D : DataW Unit} {L : List (α × β)}

theorem Rep.empty : Rep ok kl el (.map []) ([] : List (α × β)) :=
  ⟨tidy_empty, rfl, fun p h => (by cases h), fun a _ => (by simp [Maps.has]), fun x h => (by simp [Maps.has] at h), fun p h => (by cases h), List.nodup_nil⟩

theorem Rep.not (h : Rep ok kl el D L) {a : α} (ha : ok a) (hn : a ∉ L.map Prod.fst) : Maps.has D (kl a) = false := by
  cases e : Maps.has D (kl a) with
  | false => rfl
  | true => exact absurd ((h.has a ha).1 e) hn

/-- A new key. -/
theorem Rep.put (h : Rep ok kl el D L) (inj : ∀ a b, ok a → ok b → kl a = kl b → a = b) (key : ∀ a, WideAt.IsKeyLit (kl a)) {a : α} (ha : ok a) (hn : a ∉ L.map Prod.fst) (b : β) :
    Rep ok kl el (D.put (kl a) (el b)) (L ++ [(a, b)]) := by
  have hne : ∀ c, ok c → c ≠ a → kl c ≠ kl a := fun c hc hca e => hca (inj c a hc ha e)
  refine ⟨h.tidy.put (key a) _, ?_, ?_, ?_, ?_, ?_, ?_⟩
  · rw [size_put h.tidy, h.not ha hn]; simp [h.size]
  · intro p hp
    rcases List.mem_append.1 hp with hp | hp
    · exact h.oks p hp
    · rw [List.mem_singleton] at hp; subst hp; exact ha
  · intro c hc
    rw [List.map_append, List.mem_append]
    by_cases e : c = a
    · subst e
      simp [has_put_same h.tidy.isMap (key c)]
    · rw [has_put_other (hne c hc e)]
      simp [h.has c hc, e]
  · intro x hx
    by_cases e : x = kl a
    · exact ⟨(a, b), by simp, e⟩
    · rw [has_put_other e] at hx
      obtain ⟨p, hp, hx⟩ := h.all x hx
      exact ⟨p, by simp [hp], hx⟩
  · intro p hp z
    rcases List.mem_append.1 hp with hp | hp
    · rw [atKey_put_other (hne p.1 (h.oks p hp) (fun e => hn (e ▸ List.mem_map_of_mem hp)))]
      exact h.at' p hp z
    · rw [List.mem_singleton] at hp; subst hp
      exact atKey_put_same h.tidy.isMap (key a) _ _
  · rw [List.map_append, List.nodup_append]
    refine ⟨h.nodup, by simp, fun x hx y hy => ?_⟩
    simp at hy; subst hy
    exact fun e => hn (e ▸ hx)

end
theorem ownsMap_norm {P : Program} {k : TypeId} {R : Value → Option (DataW Unit × List MemPlace)} {w : World} {b n : Nat} {D : DataW Unit} (h : w.ownsMap P k R b n D) : w.ownsMap P k R b (Maps.size D) D := by
  obtain ⟨es, clock, h1, h2, h3, rfl⟩ := h
  exact ⟨es, clock, h1, h2, by simp [Maps.size, length_sorted], rfl⟩


theorem ownsMap_below {P : Program} {k : TypeId} {R : Value → Option (DataW Unit × List MemPlace)} {w w' : World} {bm n : Nat} {D : DataW Unit} (h : w.ownsMap P k R bm n D) (hb : Below w.heap.size w w') : w'.ownsMap P k R bm n D := by
  have hlt := h.lt
  obtain ⟨es, clock, h1, h2⟩ := h
  exact ⟨es, clock, (hb.block bm hlt).trans h1, h2⟩
end Go.Proofs.YtcmmoinkhodjfaaDoor
