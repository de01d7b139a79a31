/- Maps by names. -/
import Derived.Test.YtljeigdkbnichaaGreatDoorClRow
import Derived.DeepKeys4
import Derived.Maps.OwnSet
import Derived.Maps.OwnOps
import Derived.Test.YtljeigdkbnichaaGreatDoorCtMem
import Derived.StringKeys
namespace Go.Proofs.YtljeigdkbnichaaGreatDoor
open Go.RowKit Go.Maps

theorem wf_of {x : Int} (h : I64 x) : (Lit.int .i64 x).wf = true := by
  obtain ⟨h0, h1⟩ := h
  simp [Lit.wf, IntKind.min, IntKind.max, IntKind.signed, IntKind.bits]
  omega
/-! ### A map as a list of pairs -/
/-- D holds just these pairs, each key once. 'kl': a key as it reads; 'el': an element. -/
structure Rep {α β : Type} (ok : α → Prop) (kl : α → Lit) (el : β → DataW Unit) (D : DataW Unit) (L : List (α × β)) : Prop where
  tidy : Tidy D
  size : Maps.size D = L.length
  oks : ∀ p ∈ L, ok p.1
  has : ∀ a, ok a → (Maps.has D (kl a) = true ↔ a ∈ L.map Prod.fst)
  all : ∀ x, Maps.has D x = true → ∃ p ∈ L, x = kl p.1
  at' : ∀ p ∈ L, ∀ z, D.atKey (kl p.1) z = el p.2
  nodup : (L.map Prod.fst).Nodup

section
variable {α β : Type} {ok : α → Prop} {kl : α → Lit} {el : β → DataW Unit} {D : DataW Unit} {L : List (α × β)}

theorem Rep.empty : Rep ok kl el (.map []) ([] : List (α × β)) :=
  ⟨tidy_empty, rfl, fun p h => (by cases h), fun a _ => (by simp [Maps.has]), fun x h => (by simp [Maps.has] at h), fun p h => (by cases h), List.nodup_nil⟩

theorem Rep.not (h : Rep ok kl el D L) {a : α} (ha : ok a) (hn : a ∉ L.map Prod.fst) : Maps.has D (kl a) = false := by
  cases e : Maps.has D (kl a) with
  | false => rfl
  | true => exact absurd ((h.has a ha).1 e) hn

/-- A new key. -/
theorem Rep.put (h : Rep ok kl el D L) (inj : ∀ a b, ok a → ok b → kl a = kl b → a = b) (key : ∀ a, WideAt.IsKeyLit (kl a)) {a : α} (ha : ok a) (hn : a ∉ L.map Prod.fst) (b : β) :
    Rep ok kl el (D.put (kl a) (el b)) (L ++ [(a, b)]) := by
  have hne : ∀ c, ok c → c ≠ a → kl c ≠ kl a := fun c hc hca e => hca (inj c a hc ha e)
  refine ⟨h.tidy.put (key a) _, ?_, ?_, ?_, ?_, ?_, ?_⟩
  · rw [size_put h.tidy, h.not ha hn]; simp [h.size]
  · intro p hp
    rcases List.mem_append.1 hp with hp | hp
    · exact h.oks p hp
    · rw [List.mem_singleton] at hp; subst hp; exact ha
  · intro c hc
    rw [List.map_append, List.mem_append]
    by_cases e : c = a
    · subst e
      simp [has_put_same h.tidy.isMap (key c)]
    · rw [has_put_other (hne c hc e)]
      simp [h.has c hc, e]
  · intro x hx
    by_cases e : x = kl a
    · exact ⟨(a, b), by simp, e⟩
    · rw [has_put_other e] at hx
      obtain ⟨p, hp, hx⟩ := h.all x hx
      exact ⟨p, by simp [hp], hx⟩
  · intro p hp z
    rcases List.mem_append.1 hp with hp | hp
    · rw [atKey_put_other (hne p.1 (h.oks p hp) (fun e => hn (e ▸ List.mem_map_of_mem hp)))]
      exact h.at' p hp z
    · rw [List.mem_singleton] at hp; subst hp
      exact atKey_put_same h.tidy.isMap (key a) _ _
  · rw [List.map_append, List.nodup_append]
    refine ⟨h.nodup, by simp, fun x hx y hy => ?_⟩
    simp at hy; subst hy
    exact fun e => hn (e ▸ hx)

end
theorem ownsMap_norm {P : Program} {k : TypeId} {R : Value → Option (DataW Unit × List MemPlace)} {w : World} {b n : Nat} {D : DataW Unit} (h : w.ownsMap P k R b n D) : w.ownsMap P k R b (Maps.size D) D := by
  obtain ⟨es, clock, h1, h2, h3, rfl⟩ := h
  exact ⟨es, clock, h1, h2, by simp [Maps.size, length_sorted], rfl⟩


theorem ownsMap_below {P : Program} {k : TypeId} {R : Value → Option (DataW Unit × List MemPlace)} {w w' : World} {bm n : Nat} {D : DataW Unit} (h : w.ownsMap P k R bm n D) (hb : Below w.heap.size w w') : w'.ownsMap P k R bm n D := by
  have hlt := h.lt
  obtain ⟨es, clock, h1, h2⟩ := h
  exact ⟨es, clock, (hb.block bm hlt).trans h1, h2⟩
end Go.Proofs.YtljeigdkbnichaaGreatDoor

namespace Go.Proofs.YtljeigdkbnichaaGreatDoor
open Go.RowKit Go.Maps

theorem lawStr : Keyed Tryz.prog 9 := string_keyed Tryz.underlying9
theorem keyStr {s : ByteArray} (h : s.size ≤ 100000) : keyOf Tryz.prog 9 (.string s) = some (.string s.data.toList) := WideMaps.keyOf_string_mk Tryz.underlying9 (by unfold maxLen; omega)
def sKey (s : ByteArray) : Lit := .string s.data.toList
theorem sKey_key (s : ByteArray) : WideAt.IsKeyLit (sKey s) := trivial
theorem sKey_inj {a b : ByteArray} (h : sKey a = sKey b) : a = b := by
  unfold sKey at h
  injection h with h
  exact ByteArray.ext (Array.toList_inj.1 h)

/-- What a map holds, by names; and how many. -/
structure FRep {β : Type} (el : β → DataW Unit) (D : DataW Unit) (f : ByteArray → Option β) (n : Nat) : Prop where
  tidy : Tidy D
  size : Maps.size D = n
  has : ∀ a, Maps.has D (sKey a) = (f a).isSome
  at' : ∀ a b, f a = some b → ∀ z, D.atKey (sKey a) z = el b
section
variable {β : Type} {el : β → DataW Unit} {D : DataW Unit} {f : ByteArray → Option β} {n : Nat}
theorem FRep.empty : FRep el (.map []) (fun _ => (none : Option β)) 0 := ⟨tidy_empty, rfl, fun a => by simp [Maps.has], fun a b h => by cases h⟩
theorem FRep.put (h : FRep el D f n) (a : ByteArray) (b : β) : FRep el (D.put (sKey a) (el b)) (fun c => if c = a then some b else f c) (if (f a).isSome then n else n + 1) := by
  refine ⟨h.tidy.put (sKey_key a) _, ?_, fun c => ?_, fun c d hd z => ?_⟩
  · rw [size_put h.tidy, h.has, h.size]
  · by_cases e : c = a
    · subst e
      rw [has_put_same h.tidy.isMap (sKey_key c)]; simp
    · rw [has_put_other (fun e' => e (sKey_inj e')), h.has, if_neg e]
  · by_cases e : c = a
    · subst e
      rw [if_pos rfl] at hd
      cases hd
      exact atKey_put_same h.tidy.isMap (sKey_key c) _ _
    · rw [if_neg e] at hd
      rw [atKey_put_other (fun e' => e (sKey_inj e'))]
      exact h.at' c d hd z
end

/-! ### Where a name's items lie -/
def rowDat (r : Nat × Nat) : DataW Unit := .agg [.lit (.int .i64 (r.1 : Int)), .lit (.int .i64 (r.2 : Int))]
def rowV (r : Nat × Nat) : Value := .agg #[.int .i64 (r.1 : Int), .int .i64 (r.2 : Int)]
def rowOfL : List Value → Option (DataW Unit × List MemPlace)
  | [.int .i64 a, .int .i64 b] => some (.agg [.lit (.int .i64 a), .lit (.int .i64 b)], [])
  | _ => none
def rowElem : Value → Option (DataW Unit × List MemPlace)
  | .agg cs => rowOfL cs.toList
  | _ => none
theorem rowElem_mk (r : Nat × Nat) : rowElem (rowV r) = some (rowDat r, []) := rfl
theorem rowElem_inv {v : Value} {r : Nat × Nat} {ps : List MemPlace} (h : rowElem v = some (rowDat r, ps)) : v = rowV r := by
  unfold rowElem at h
  split at h
  · rename_i cs
    unfold rowOfL at h
    split at h
    · rename_i a b e
      simp only [Option.some.injEq, Prod.mk.injEq, rowDat, DataW.agg.injEq, List.cons.injEq, DataW.lit.injEq, Lit.int.injEq, true_and, and_true] at h
      obtain ⟨⟨h1, h2⟩, -⟩ := h
      rw [show cs = #[.int .i64 a, .int .i64 b] from Array.toList_inj.1 e, h1, h2]; rfl
    · cases h
  · cases h
theorem zeroRow (w : World) : (zeroValue 161).run Tryz.prog w = .ok (.agg #[.int .i64 0, .int .i64 0]) w := by kernel_rfl

/-- The map of rows; so many names at most. -/
def RowsAt (w : World) (bm : Nat) (f : ByteArray → Option (Nat × Nat)) (N : Nat) : Prop := ∃ D n, w.ownsMap Tryz.prog 9 rowElem bm n D ∧ FRep rowDat D f n ∧ n ≤ N
theorem RowsAt.below {B : Nat} {w w' : World} {bm N : Nat} {f : ByteArray → Option (Nat × Nat)} (h : RowsAt w bm f N) (hb : Below B w w') (hB : w.heap.size ≤ B) : RowsAt w' bm f N := by
  obtain ⟨D, n, h1, h2, h3⟩ := h
  exact ⟨D, n, ownsMap_below h1 (hb.mono hB), h2, h3⟩
theorem RowsAt.lt {w : World} {bm N : Nat} {f : ByteArray → Option (Nat × Nat)} (h : RowsAt w bm f N) : bm < w.heap.size := by obtain ⟨D, n, h1, _⟩ := h; exact h1.lt
theorem RowsAt.block {w w' : World} {bm N : Nat} {f : ByteArray → Option (Nat × Nat)} (h : RowsAt w bm f N) (hb : w'.heap[bm]? = w.heap[bm]?) : RowsAt w' bm f N := by
  obtain ⟨D, n, ⟨es, clock, h1, h2⟩, hR⟩ := h
  exact ⟨D, n, ⟨es, clock, hb.trans h1, h2⟩, hR⟩
theorem RowsAt.made (w : World) : RowsAt (w.alloc (.map #[] 0)) w.heap.size (fun _ => none) 0 := ⟨.map [], 0, World.ownsMap_made w _ _ _, FRep.empty, Nat.le_refl _⟩
theorem RowsAt.ne {w : World} {bm N b : Nat} {f : ByteArray → Option (Nat × Nat)} {t : TypeId} {cs : Array Value} (h : RowsAt w bm f N) (hb : Blk w b t cs) : bm ≠ b := by
  rintro rfl
  obtain ⟨D, n, ⟨es, clock, h1, _⟩, _⟩ := h
  have := h1.symm.trans hb
  cases this
theorem RowsAt.look {w : World} {bm N : Nat} {f : ByteArray → Option (Nat × Nat)} (h : RowsAt w bm f N) {s : ByteArray} (hs : s.size ≤ 100000) :
    (Instr.lookup 149 (.map (some bm)) (.string s) true).run Tryz.prog w = .ok (.tuple #[rowV ((f s).getD (0, 0)), .bool (f s).isSome]) w ∧ (Instr.lookup 149 (.map (some bm)) (.string s) false).run Tryz.prog w = .ok (rowV ((f s).getD (0, 0))) w := by
  obtain ⟨D, n, hD, hR, -⟩ := h
  have key : ∀ v ps, rowElem v = some (D.atKey (.string s.data.toList) (rowDat (0, 0)), ps) → v = rowV ((f s).getD (0, 0)) := fun v ps hv => by
    cases hf : f s with
    | none =>
      have hh := hR.has s
      rw [hf] at hh
      rw [atKey_of_not_has (show Maps.has D (.string s.data.toList) = false from hh)] at hv
      exact rowElem_inv hv
    | some r =>
      rw [show D.atKey (.string s.data.toList) (rowDat (0, 0)) = rowDat r from hR.at' s r hf _] at hv
      exact rowElem_inv hv
  constructor
  · obtain ⟨v, ps, hrun, hv⟩ := hD.look_ok lawStr Tryz.underlying149 (zeroRow w) (rowElem_mk (0, 0)) (keyStr hs)
    rw [key v ps hv, show Maps.has D (.string s.data.toList) = (f s).isSome from hR.has s] at hrun
    exact hrun
  · obtain ⟨v, ps, hrun, hv⟩ := hD.lookup lawStr Tryz.underlying149 (zeroRow w) (rowElem_mk (0, 0)) (keyStr hs)
    rw [key v ps hv] at hrun
    exact hrun
theorem RowsAt.put {w : World} {bm N : Nat} {f : ByteArray → Option (Nat × Nat)} (h : RowsAt w bm f N) {s : ByteArray} (hs : s.size ≤ 100000) (r : Nat × Nat) (hN : N < 1000000) :
    ∃ w', (Instr.mapUpdate 149 (.map (some bm)) (.string s) (rowV r)).run Tryz.prog w = .ok () w' ∧ RowsAt w' bm (fun c => if c = s then some r else f c) (N + 1) ∧ w.grownBy w' (some bm) := by
  obtain ⟨D, n, hD, hR, hn⟩ := h
  obtain ⟨w', hrun, g1, k1⟩ := hD.update lawStr Tryz.underlying149 (by unfold maxLen; omega) (keyStr hs) (rowElem_mk r)
  have hR1 := hR.put s r
  exact ⟨w', hrun, ⟨_, _, hR1.size ▸ ownsMap_norm g1, hR1, by split <;> omega⟩, k1⟩

/-! ### A set of names -/
theorem namesN_snoc (l : List It) (x : It) : namesN (l ++ [x]) = if x.name ∈ l.map It.name then namesN l else namesN l + 1 := by
  unfold namesN
  rw [List.map_append, List.eraseDups_append, List.length_append, List.map_cons, List.map_nil]
  by_cases h : x.name ∈ l.map It.name
  · rw [if_pos h, show [x.name].removeAll (l.map It.name) = [] by simp only [List.removeAll, List.filter_cons, List.filter_nil, List.elem_eq_mem, h, decide_true, Bool.not_true, Bool.false_eq_true, if_false]]
    rfl
  · rw [if_neg h, show [x.name].removeAll (l.map It.name) = [x.name] by simp only [List.removeAll, List.filter_cons, List.filter_nil, List.elem_eq_mem, h, decide_false, Bool.not_false, if_true]]
    rfl
theorem namesN_le (l : List It) : namesN l ≤ l.length := by
  unfold namesN
  have : ∀ m : List ByteArray, m.eraseDups.length ≤ m.length := by
    intro m
    induction h : m.length using Nat.strongRecOn generalizing m with
    | _ n ih =>
      cases m with
      | nil => simp
      | cons a m =>
        rw [List.eraseDups_cons]
        have h1 := List.length_filter_le (fun b => !(b == a)) m
        have := ih (m.filter fun b => !(b == a)).length (by rw [← h]; simp only [List.length_cons]; omega) _ rfl
        simp only [List.length_cons] at h ⊢
        omega
  simpa using this (l.map It.name)
theorem zeroUnit (w : World) : (zeroValue 197).run Tryz.prog w = .ok (.agg #[]) w := by kernel_rfl
def namesF (l : List It) (c : ByteArray) : Option Unit := if c ∈ l.map It.name then some () else none
/-- The set of names. -/
def NamesAt (w : World) (bm : Nat) (l : List It) : Prop := ∃ D, w.ownsMap Tryz.prog 9 unitElem bm (namesN l) D ∧ FRep (fun _ : Unit => .agg []) D (namesF l) (namesN l)
theorem NamesAt.made (w : World) : NamesAt (w.alloc (.map #[] 0)) w.heap.size [] := ⟨.map [], World.ownsMap_made w _ _ _, FRep.empty⟩
theorem NamesAt.below {B : Nat} {w w' : World} {bm : Nat} {l : List It} (h : NamesAt w bm l) (hb : Below B w w') (hB : w.heap.size ≤ B) : NamesAt w' bm l := by
  obtain ⟨D, h1, h2⟩ := h
  exact ⟨D, ownsMap_below h1 (hb.mono hB), h2⟩
theorem NamesAt.lt {w : World} {bm : Nat} {l : List It} (h : NamesAt w bm l) : bm < w.heap.size := by obtain ⟨D, h1, _⟩ := h; exact h1.lt
theorem NamesAt.block {w w' : World} {bm : Nat} {l : List It} (h : NamesAt w bm l) (hb : w'.heap[bm]? = w.heap[bm]?) : NamesAt w' bm l := by
  obtain ⟨D, ⟨es, clock, h1, h2⟩, hR⟩ := h
  exact ⟨D, ⟨es, clock, hb.trans h1, h2⟩, hR⟩
theorem NamesAt.put {w : World} {bm : Nat} {l : List It} (h : NamesAt w bm l) (hl : l.length < 1000000) {x : It} (hs : x.name.size ≤ 100000) :
    ∃ w', (Instr.mapUpdate 195 (.map (some bm)) (.string x.name) (.agg #[])).run Tryz.prog w = .ok () w' ∧ NamesAt w' bm (l ++ [x]) ∧ w.grownBy w' (some bm) := by
  obtain ⟨D, hD, hR⟩ := h
  have hle := namesN_le l
  obtain ⟨w', hrun, g1, k1⟩ := hD.update lawStr Tryz.underlying195 (by unfold maxLen; omega) (keyStr hs) unitElem_mk
  have hR1 := hR.put x.name ()
  have e1 : (fun c => if c = x.name then some () else namesF l c) = namesF (l ++ [x]) := by
    funext c
    unfold namesF
    by_cases h : c = x.name
    · simp [h]
    · simp [h]
  have e2 : (if (namesF l x.name).isSome then namesN l else namesN l + 1) = namesN (l ++ [x]) := by
    rw [namesN_snoc]
    unfold namesF
    by_cases h : x.name ∈ l.map It.name
    · rw [if_pos h, if_pos h]; rfl
    · rw [if_neg h, if_neg h]; rfl
  rw [e1, e2] at hR1
  exact ⟨w', hrun, ⟨_, hR1.size ▸ ownsMap_norm g1, hR1⟩, k1⟩
theorem NamesAt.len {w : World} {bm : Nat} {l : List It} (h : NamesAt w bm l) (ty : TypeId) : (Builtin.len_ #[195] ty #[.map (some bm)]).run Tryz.prog w = .ok (.int .i64 (namesN l : Int)) w := by
  obtain ⟨D, hD, hR⟩ := h
  rw [hD.len Tryz.underlying195 ty, hR.size]
end Go.Proofs.YtljeigdkbnichaaGreatDoor
