/- What a function makes of handles: of three ends at once, else by the least variable. -/
import Derived.Test.YtcjjekhecjmaeaaGreatDoorArTaken
namespace Go.Proofs.YtcjjekhecjmaeaaGreatDoor
section
open Go.RowKit Go.Maps
def pl (h : Int) : Nat := (h - 2).toNat
def semF : Nat -> List Nd -> Int -> (Nat -> Bool) -> Bool
  | 0, _, h, _ => decide (h = 1)
  | d + 1, ns, h, f =>
    if topOf ns h = 24 then decide (h = 1)
    else if f (topOf ns h).toNat then semF d ns (nd ns (pl h)).h f else semF d ns (nd ns (pl h)).l f
def sem (ns : List Nd) (h : Int) (f : Nat -> Bool) : Bool := semF 24 ns h f
structure Good (vars : Nat) (ns : List Nd) : Prop where
  ranked : Ranked ns
  once : ∀ i j, i < ns.length -> j < ns.length -> (nd ns i).v < 24 -> nd ns i = nd ns j -> i = j
  red : ∀ i, i < ns.length -> (nd ns i).v < 24 -> (nd ns i).l ≠ (nd ns i).h
  vars : ∀ i, i < ns.length -> (nd ns i).v < 24 -> (nd ns i).v < (vars : Int)
  free : ∀ i, i < ns.length -> ¬ (nd ns i).v < 24 -> nd ns i = ⟨24, 0, 0⟩
section
variable {ns : List Nd}
theorem node_at {h : Int} (ht : topOf ns h ≠ 24) : 2 <= h /\ pl h < ns.length /\ topOf ns h = (nd ns (pl h)).v /\ h = 2 + (pl h : Int) := by
  obtain ⟨h1, h2, h3⟩ := topOf_node ht
  exact ⟨h1, h2, h3, by unfold pl; omega⟩
theorem top_lt (hr : Ranked ns) {h : Int} (ht : topOf ns h ≠ 24) : topOf ns h < 24 := by
  have := (topOf_le hr h).2; omega
theorem kids (hr : Ranked ns) {h : Int} (ht : topOf ns h ≠ 24) : topOf ns h < topOf ns (nd ns (pl h)).l /\ hasB ns (nd ns (pl h)).l = true /\ topOf ns h < topOf ns (nd ns (pl h)).h /\ hasB ns (nd ns (pl h)).h = true := by
  obtain ⟨h1, h2, h3, h4⟩ := node_at ht
  have hv := top_lt hr ht
  rw [h3] at hv ⊢
  exact ⟨(hr.l _ h2 hv).1, (hr.l _ h2 hv).2, (hr.h _ h2 hv).1, (hr.h _ h2 hv).2⟩
def turn (f : Nat -> Bool) (v : Nat) (b : Bool) : Nat -> Bool := fun i => if i = v then b else f i
structure Ext (ns ns' : List Nd) : Prop where
  has : ∀ h, hasB ns h = true -> hasB ns' h = true
  top : ∀ h, hasB ns h = true -> topOf ns' h = topOf ns h
  node : ∀ h, hasB ns h = true -> topOf ns h ≠ 24 -> nd ns' (pl h) = nd ns (pl h)
theorem Ext.refl (ns : List Nd) : Ext ns ns := ⟨fun _ h => h, fun _ _ => rfl, fun _ _ _ => rfl⟩
theorem Ext.trans {a b c : List Nd} (h : Ext a b) (k : Ext b c) : Ext a c :=
  ⟨fun x hx => k.has x (h.has x hx), fun x hx => (k.top x (h.has x hx)).trans (h.top x hx), fun x hx ht => (k.node x (h.has x hx) (by rw [h.top x hx]; exact ht)).trans (h.node x hx ht)⟩
theorem semF_ext {ns' : List Nd} (hr : Ranked ns) (he : Ext ns ns') (f : Nat -> Bool) : ∀ (d : Nat) (h : Int), hasB ns h = true -> semF d ns' h f = semF d ns h f
  | 0, _, _ => rfl
  | d + 1, h, hh => by
    unfold semF
    rw [he.top h hh]
    by_cases ht : topOf ns h = 24
    · rw [if_pos ht, if_pos ht]
    · obtain ⟨-, k1, -, k2⟩ := kids hr ht
      rw [if_neg ht, if_neg ht, he.node h hh ht, semF_ext hr he f d _ k1, semF_ext hr he f d _ k2]
theorem sem_ext {ns' : List Nd} (hr : Ranked ns) (he : Ext ns ns') {h : Int} (hh : hasB ns h = true) (f : Nat -> Bool) : sem ns' h f = sem ns h f := semF_ext hr he f 24 h hh
end
end
section
open Go.RowKit Go.Maps
def lfree (ns : List Nd) : Nat := ns.findIdx fun n => !decide (n.v < 24)
def idx (ns : List Nd) (n : Nd) : Nat := ns.findIdx fun m => decide (m = n)
section
variable {ns : List Nd}
theorem lfree_le (ns : List Nd) : lfree ns <= ns.length := List.findIdx_le_length
theorem lfree_taken {j : Nat} (h : j < lfree ns) : (nd ns j).v < 24 := by
  have hl : j < ns.length := Nat.lt_of_lt_of_le h (lfree_le ns)
  have := List.not_of_lt_findIdx h
  rw [nd_at ns j hl]; simpa using this
theorem lfree_free (h : lfree ns < ns.length) : ¬ (nd ns (lfree ns)).v < 24 := by
  have := List.findIdx_getElem (w := h)
  rw [nd_at ns _ h]; unfold lfree; simpa using this
theorem lfree_is {k : Nat} (hk : k <= ns.length) (ht : ∀ j, j < k -> (nd ns j).v < 24) (hf : k < ns.length -> ¬ (nd ns k).v < 24) : k = lfree ns := by
  rcases Nat.lt_trichotomy k (lfree ns) with h | h | h
  · exact absurd (lfree_taken h) (hf (Nat.lt_of_lt_of_le h (lfree_le ns)))
  · exact h
  · exact absurd (ht _ h) (lfree_free (by omega))
theorem idx_at {n : Nd} (h : idx ns n < ns.length) : nd ns (idx ns n) = n := by
  have := List.findIdx_getElem (w := h)
  rw [nd_at ns _ h]; unfold idx; simpa using this
theorem idx_none {n : Nd} (h : ¬ idx ns n < ns.length) {j : Nat} (hj : j < ns.length) : nd ns j ≠ n := by
  have : j < idx ns n := by omega
  have := List.not_of_lt_findIdx this
  rw [nd_at ns j hj]; simpa using this
def makeF (ns : List Nd) (n : Nd) : List Nd × Int := if idx ns n < ns.length then (ns, 2 + (idx ns n : Int)) else (putN ns (lfree ns) n, 2 + (lfree ns : Int))
theorem has_i64 {h : Int} (hh : hasB ns h = true) (hl : ns.length <= 1000000) : I64 h := by
  rcases hasB_cases hh with rfl | rfl | ht
  · exact ⟨by omega, by omega⟩
  · exact ⟨by omega, by omega⟩
  · obtain ⟨h1, h2, -, h4⟩ := node_at (ns := ns) (h := h) (by omega)
    exact ⟨by omega, by omega⟩
end
end
section
open Go.RowKit Go.Maps
def opS (op a b c : Bool) : Bool := if op = true then (if a = true then b else c) else (a != b)
def minT (ns : List Nd) (k : Nd) : Int := min (min (topOf ns k.v) (topOf ns k.l)) (topOf ns k.h)
def memoPut {α : Type} [DecidableEq α] (m : List (α × Int)) (k : α) (h : Int) : List (α × Int) := if k ∈ m.map Prod.fst then m.map (fun q => if q.1 = k then (q.1, h) else q) else m ++ [(k, h)]
section
variable {α : Type} [DecidableEq α] {m : List (α × Int)} {k : α}
end
structure Has3 (ns : List Nd) (k : Nd) : Prop where
  a : hasB ns k.v = true
  b : hasB ns k.l = true
  c : hasB ns k.h = true
structure MemoOk (op : Bool) (ns : List Nd) (m : List (Nd × Int)) : Prop where
  keys : ∀ p ∈ m, Has3 ns p.1
  has : ∀ p ∈ m, hasB ns p.2 = true
  top : ∀ p ∈ m, minT ns p.1 <= topOf ns p.2
  sem : ∀ p ∈ m, ∀ f, sem ns p.2 f = opS op (sem ns p.1.v f) (sem ns p.1.l f) (sem ns p.1.h f)
section
variable {ns : List Nd} {op : Bool} {m : List (Nd × Int)} {k : Nd} {vars : Nat}
theorem Has3.ext {ns' : List Nd} (h : Has3 ns k) (he : Ext ns ns') : Has3 ns' k := ⟨he.has _ h.a, he.has _ h.b, he.has _ h.c⟩
theorem minT_ext {ns' : List Nd} (h : Has3 ns k) (he : Ext ns ns') : minT ns' k = minT ns k := by unfold minT; rw [he.top _ h.a, he.top _ h.b, he.top _ h.c]
theorem MemoOk.ext {ns' : List Nd} (hr : Ranked ns) (h : MemoOk op ns m) (he : Ext ns ns') : MemoOk op ns' m :=
  ⟨fun p hp => (h.keys p hp).ext he, fun p hp => he.has _ (h.has p hp), fun p hp => by rw [minT_ext (h.keys p hp) he, he.top _ (h.has p hp)]; exact h.top p hp,
   fun p hp f => by rw [sem_ext hr he (h.has p hp), sem_ext hr he (h.keys p hp).a, sem_ext hr he (h.keys p hp).b, sem_ext hr he (h.keys p hp).c]; exact h.sem p hp f⟩
end
end
end Go.Proofs.YtcjjekhecjmaeaaGreatDoor
