/- Has of a version that is none: a part below 0 or above 999. -/
import Derived.Test.YtmhophccdfmngaaGreatDoorCtMem
import Derived.DeepKeys4
import Derived.Maps.OwnSet
import Derived.Maps.OwnOps
import Derived.StringKeys
import Derived.Test.YtmhophccdfmngaaGreatDoorSvPart
import Derived.Shelf.SlGeneric
import Derived.Shelf.SlSortCmp.NoneTotal
import Derived.Shelf.SlicesQ.Contains
import Derived.Shelf.SlicesE.Clone
import Derived.Shelf.Spec.SlicesInsertGrow
import Derived.Shelf.Spec.SlicesInsert
import Derived.Test.YtmhophccdfmngaaGreatDoorProg
import Derived.Laws.StructEq
import Derived.Test.YtmhophccdfmngaaGreatDoorSvHas
set_option maxHeartbeats 1000000
set_option maxRecDepth 100000
namespace Go.Proofs.YtmhophccdfmngaaGreatDoor
open Go.RowKit Go.Maps
structure Rep {α β : Type} (ok : α -> Prop) (kl : α -> Lit) (el : β -> DataW Unit) (D : DataW Unit) (L : List (α × β)) : Prop where
 tidy : Tidy D
 size : Maps.size D = L.length
 oks : ∀ p ∈ L, ok p.1
 has : ∀ a, ok a -> (Maps.has D (kl a) = true ↔ a ∈ L.map Prod.fst)
 all : ∀ x, Maps.has D x = true -> ∃ p ∈ L, x = kl p.1
 at' : ∀ p ∈ L, ∀ z, D.atKey (kl p.1) z = el p.2
 nodup : (L.map Prod.fst).Nodup
section
variable {α β : Type} {ok : α -> Prop} {kl : α -> Lit} {el : β -> DataW Unit} {D : DataW Unit} {L : List (α × β)}
theorem Rep.empty : Rep ok kl el (.map []) ([] : List (α × β)) :=
 ⟨tidy_empty, rfl, fun p h => (by cases h), fun a _ => (by simp [Maps.has]), fun x h => (by simp [Maps.has] at h), fun p h => (by cases h), List.nodup_nil⟩
theorem Rep.not (h : Rep ok kl el D L) {a : α} (ha : ok a) (hn : a ∉ L.map Prod.fst) : Maps.has D (kl a) = false := by
 cases e : Maps.has D (kl a) with
 | false => rfl
 | true => exact absurd ((h.has a ha).1 e) hn
theorem Rep.put (h : Rep ok kl el D L) (inj : ∀ a b, ok a -> ok b -> kl a = kl b -> a = b) (key : ∀ a, WideAt.IsKeyLit (kl a)) {a : α} (ha : ok a) (hn : a ∉ L.map Prod.fst) (b : β) :
  Rep ok kl el (D.put (kl a) (el b)) (L ++ [(a, b)]) := by
 have hne : ∀ c, ok c -> c ≠ a -> kl c ≠ kl a := fun c hc hca e => hca (inj c a hc ha e)
 refine ⟨h.tidy.put (key a) _, ?_, ?_, ?_, ?_, ?_, ?_⟩
 ·rw [size_put h.tidy, h.not ha hn]; simp [h.size]
 ·intro p hp
  rcases List.mem_append.1 hp with hp | hp
  ·exact h.oks p hp
  ·rw [List.mem_singleton] at hp; subst hp; exact ha
 ·intro c hc
  rw [List.map_append, List.mem_append]
  by_cases e : c = a
  ·subst e
   simp [has_put_same h.tidy.isMap (key c)]
  ·rw [has_put_other (hne c hc e)]
   simp [h.has c hc, e]
 ·intro x hx
  by_cases e : x = kl a
  ·exact ⟨(a, b), by simp, e⟩
  ·rw [has_put_other e] at hx
   obtain ⟨p, hp, hx⟩ := h.all x hx
   exact ⟨p, by simp [hp], hx⟩
 ·intro p hp z
  rcases List.mem_append.1 hp with hp | hp
  ·rw [atKey_put_other (hne p.1 (h.oks p hp) (fun e => hn (e ▸ List.mem_map_of_mem hp)))]
   exact h.at' p hp z
  ·rw [List.mem_singleton] at hp; subst hp
   exact atKey_put_same h.tidy.isMap (key a) _ _
 ·rw [List.map_append, List.nodup_append]
  refine ⟨h.nodup, by simp, fun x hx y hy => ?_⟩
  simp at hy; subst hy
  exact fun e => hn (e ▸ hx)
end
theorem ownsMap_norm {P : Program} {k : TypeId} {R : Value -> Option (DataW Unit × List MemPlace)} {w : World} {b n : Nat} {D : DataW Unit} (h : w.ownsMap P k R b n D) : w.ownsMap P k R b (Maps.size D) D := by
 obtain ⟨es, clock, h1, h2, h3, rfl⟩ := h
 exact ⟨es, clock, h1, h2, by simp [Maps.size, length_sorted], rfl⟩
theorem ownsMap_below {P : Program} {k : TypeId} {R : Value -> Option (DataW Unit × List MemPlace)} {w w' : World} {bm n : Nat} {D : DataW Unit} (h : w.ownsMap P k R bm n D) (hb : Below w.heap.size w w') : w'.ownsMap P k R bm n D := by
 have hlt := h.lt
 obtain ⟨es, clock, h1, h2⟩ := h
 exact ⟨es, clock, (hb.block bm hlt).trans h1, h2⟩
end Go.Proofs.YtmhophccdfmngaaGreatDoor
namespace Go.Proofs.YtmhophccdfmngaaGreatDoor
open Go.RowKit Go.Maps
theorem lawStr : Keyed Tryz.prog 9 := string_keyed Tryz.underlying9
theorem keyStr {s : ByteArray} (h : s.size <= 100000) : keyOf Tryz.prog 9 (.string s) = some (.string s.data.toList) := WideMaps.keyOf_string_mk Tryz.underlying9 (by unfold maxLen; omega)
def sKey (s : ByteArray) : Lit := .string s.data.toList
theorem sKey_key (s : ByteArray) : WideAt.IsKeyLit (sKey s) := trivial
theorem sKey_inj {a b : ByteArray} (h : sKey a = sKey b) : a = b := by
 unfold sKey at h
 injection h with h
 exact ByteArray.ext (Array.toList_inj.1 h)
structure FRep {β : Type} (el : β -> DataW Unit) (D : DataW Unit) (f : ByteArray -> Option β) (n : Nat) : Prop where
 tidy : Tidy D
 size : Maps.size D = n
 has : ∀ a, Maps.has D (sKey a) = (f a).isSome
 at' : ∀ a b, f a = some b -> ∀ z, D.atKey (sKey a) z = el b
section
variable {β : Type} {el : β -> DataW Unit} {D : DataW Unit} {f : ByteArray -> Option β} {n : Nat}
theorem FRep.empty : FRep el (.map []) (fun _ => (none : Option β)) 0 := ⟨tidy_empty, rfl, fun a => by simp [Maps.has], fun a b h => by cases h⟩
theorem FRep.put (h : FRep el D f n) (a : ByteArray) (b : β) : FRep el (D.put (sKey a) (el b)) (fun c => if c = a then some b else f c) (if (f a).isSome then n else n + 1) := by
 refine ⟨h.tidy.put (sKey_key a) _, ?_, fun c => ?_, fun c d hd z => ?_⟩
 ·rw [size_put h.tidy, h.has, h.size]
 ·by_cases e : c = a
  ·subst e
   rw [has_put_same h.tidy.isMap (sKey_key c)]; simp
  ·rw [has_put_other (fun e' => e (sKey_inj e')), h.has, if_neg e]
 ·by_cases e : c = a
  ·subst e
   rw [if_pos rfl] at hd
   cases hd
   exact atKey_put_same h.tidy.isMap (sKey_key c) _ _
  ·rw [if_neg e] at hd
   rw [atKey_put_other (fun e' => e (sKey_inj e'))]
   exact h.at' c d hd z
end
def rowDat (r : Nat × Nat) : DataW Unit := .agg [.lit (.int .i64 (r.1 : Int)), .lit (.int .i64 (r.2 : Int))]
def rowV (r : Nat × Nat) : Value := .agg #[.int .i64 (r.1 : Int), .int .i64 (r.2 : Int)]
def rowOfL : List Value -> Option (DataW Unit × List MemPlace)
 | [.int .i64 a, .int .i64 b] => some (.agg [.lit (.int .i64 a), .lit (.int .i64 b)], [])
 | _ => none
def rowElem : Value -> Option (DataW Unit × List MemPlace)
 | .agg cs => rowOfL cs.toList
 | _ => none
theorem rowElem_mk (r : Nat × Nat) : rowElem (rowV r) = some (rowDat r, []) := rfl
theorem rowElem_inv {v : Value} {r : Nat × Nat} {ps : List MemPlace} (h : rowElem v = some (rowDat r, ps)) : v = rowV r := by
 unfold rowElem at h
 split at h
 ·rename_i cs
  unfold rowOfL at h
  split at h
  ·rename_i a b e
   simp only [Option.some.injEq, Prod.mk.injEq, rowDat, DataW.agg.injEq, List.cons.injEq, DataW.lit.injEq, Lit.int.injEq, true_and, and_true] at h
   obtain ⟨⟨h1, h2⟩, -⟩ := h
   rw [show cs = #[.int .i64 a, .int .i64 b] from Array.toList_inj.1 e, h1, h2]; rfl
  ·cases h
 ·cases h
theorem zeroRow (w : World) : (zeroValue 161).run Tryz.prog w = .ok (.agg #[.int .i64 0, .int .i64 0]) w := by kernel_rfl
def RowsAt (w : World) (bm : Nat) (f : ByteArray -> Option (Nat × Nat)) (N : Nat) : Prop := ∃ D n, w.ownsMap Tryz.prog 9 rowElem bm n D /\ FRep rowDat D f n /\ n <= N
theorem RowsAt.below {B : Nat} {w w' : World} {bm N : Nat} {f : ByteArray -> Option (Nat × Nat)} (h : RowsAt w bm f N) (hb : Below B w w') (hB : w.heap.size <= B) : RowsAt w' bm f N := by
 obtain ⟨D, n, h1, h2, h3⟩ := h
 exact ⟨D, n, ownsMap_below h1 (hb.mono hB), h2, h3⟩
theorem RowsAt.lt {w : World} {bm N : Nat} {f : ByteArray -> Option (Nat × Nat)} (h : RowsAt w bm f N) : bm < w.heap.size := by obtain ⟨D, n, h1, _⟩ := h; exact h1.lt
theorem RowsAt.block {w w' : World} {bm N : Nat} {f : ByteArray -> Option (Nat × Nat)} (h : RowsAt w bm f N) (hb : w'.heap[bm]? = w.heap[bm]?) : RowsAt w' bm f N := by
 obtain ⟨D, n, ⟨es, clock, h1, h2⟩, hR⟩ := h
 exact ⟨D, n, ⟨es, clock, hb.trans h1, h2⟩, hR⟩
theorem RowsAt.made (w : World) : RowsAt (w.alloc (.map #[] 0)) w.heap.size (fun _ => none) 0 := ⟨.map [], 0, World.ownsMap_made w _ _ _, FRep.empty, Nat.le_refl _⟩
theorem RowsAt.ne {w : World} {bm N b : Nat} {f : ByteArray -> Option (Nat × Nat)} {t : TypeId} {cs : Array Value} (h : RowsAt w bm f N) (hb : Blk w b t cs) : bm ≠ b := by
 rintro rfl
 obtain ⟨D, n, ⟨es, clock, h1, _⟩, _⟩ := h
 have := h1.symm.trans hb
 cases this
theorem RowsAt.look {w : World} {bm N : Nat} {f : ByteArray -> Option (Nat × Nat)} (h : RowsAt w bm f N) {s : ByteArray} (hs : s.size <= 100000) :
  (Instr.lookup 149 (.map (some bm)) (.string s) true).run Tryz.prog w = .ok (.tuple #[rowV ((f s).getD (0, 0)), .bool (f s).isSome]) w /\ (Instr.lookup 149 (.map (some bm)) (.string s) false).run Tryz.prog w = .ok (rowV ((f s).getD (0, 0))) w := by
 obtain ⟨D, n, hD, hR, -⟩ := h
 have key : ∀ v ps, rowElem v = some (D.atKey (.string s.data.toList) (rowDat (0, 0)), ps) -> v = rowV ((f s).getD (0, 0)) := fun v ps hv => by
  cases hf : f s with
  | none =>
   have hh := hR.has s
   rw [hf] at hh
   rw [atKey_of_not_has (show Maps.has D (.string s.data.toList) = false from hh)] at hv
   exact rowElem_inv hv
  | some r =>
   rw [show D.atKey (.string s.data.toList) (rowDat (0, 0)) = rowDat r from hR.at' s r hf _] at hv
   exact rowElem_inv hv
 constructor
 ·obtain ⟨v, ps, hrun, hv⟩ := hD.look_ok lawStr Tryz.underlying149 (zeroRow w) (rowElem_mk (0, 0)) (keyStr hs)
  rw [key v ps hv, show Maps.has D (.string s.data.toList) = (f s).isSome from hR.has s] at hrun
  exact hrun
 ·obtain ⟨v, ps, hrun, hv⟩ := hD.lookup lawStr Tryz.underlying149 (zeroRow w) (rowElem_mk (0, 0)) (keyStr hs)
  rw [key v ps hv] at hrun
  exact hrun
theorem RowsAt.put {w : World} {bm N : Nat} {f : ByteArray -> Option (Nat × Nat)} (h : RowsAt w bm f N) {s : ByteArray} (hs : s.size <= 100000) (r : Nat × Nat) (hN : N < 1000000) :
  ∃ w', (Instr.mapUpdate 149 (.map (some bm)) (.string s) (rowV r)).run Tryz.prog w = .ok () w' /\ RowsAt w' bm (fun c => if c = s then some r else f c) (N + 1) /\ w.grownBy w' (some bm) := by
 obtain ⟨D, n, hD, hR, hn⟩ := h
 obtain ⟨w', hrun, g1, k1⟩ := hD.update lawStr Tryz.underlying149 (by unfold maxLen; omega) (keyStr hs) (rowElem_mk r)
 have hR1 := hR.put s r
 exact ⟨w', hrun, ⟨_, _, hR1.size ▸ ownsMap_norm g1, hR1, by split <;> omega⟩, k1⟩
theorem namesN_snoc (l : List It) (x : It) : namesN (l ++ [x]) = if x.name ∈ l.map It.name then namesN l else namesN l + 1 := by
 unfold namesN
 rw [List.map_append, List.eraseDups_append, List.length_append, List.map_cons, List.map_nil]
 by_cases h : x.name ∈ l.map It.name
 ·rw [if_pos h, show [x.name].removeAll (l.map It.name) = [] by simp only [List.removeAll, List.filter_cons, List.filter_nil, List.elem_eq_mem, h, decide_true, Bool.not_true, Bool.false_eq_true, if_false]]
  rfl
 ·rw [if_neg h, show [x.name].removeAll (l.map It.name) = [x.name] by simp only [List.removeAll, List.filter_cons, List.filter_nil, List.elem_eq_mem, h, decide_false, Bool.not_false, if_true]]
  rfl
theorem namesN_le (l : List It) : namesN l <= l.length := by
 unfold namesN
 have : ∀ m : List ByteArray, m.eraseDups.length <= m.length := by
  intro m
  induction h : m.length using Nat.strongRecOn generalizing m with
  | _ n ih =>
   cases m with
   | nil => simp
   | cons a m =>
    rw [List.eraseDups_cons]
    have h1 := List.length_filter_le (fun b => !(b == a)) m
    have := ih (m.filter fun b => !(b == a)).length (by rw [<- h]; simp only [List.length_cons]; omega) _ rfl
    simp only [List.length_cons] at h ⊢
    omega
 simpa using this (l.map It.name)
def namesF (l : List It) (c : ByteArray) : Option Unit := if c ∈ l.map It.name then some () else none
def NamesAt (w : World) (bm : Nat) (l : List It) : Prop := ∃ D, w.ownsMap Tryz.prog 9 unitElem bm (namesN l) D /\ FRep (fun _ : Unit => .agg []) D (namesF l) (namesN l)
theorem NamesAt.made (w : World) : NamesAt (w.alloc (.map #[] 0)) w.heap.size [] := ⟨.map [], World.ownsMap_made w _ _ _, FRep.empty⟩
theorem NamesAt.below {B : Nat} {w w' : World} {bm : Nat} {l : List It} (h : NamesAt w bm l) (hb : Below B w w') (hB : w.heap.size <= B) : NamesAt w' bm l := by
 obtain ⟨D, h1, h2⟩ := h
 exact ⟨D, ownsMap_below h1 (hb.mono hB), h2⟩
theorem NamesAt.lt {w : World} {bm : Nat} {l : List It} (h : NamesAt w bm l) : bm < w.heap.size := by obtain ⟨D, h1, _⟩ := h; exact h1.lt
theorem NamesAt.block {w w' : World} {bm : Nat} {l : List It} (h : NamesAt w bm l) (hb : w'.heap[bm]? = w.heap[bm]?) : NamesAt w' bm l := by
 obtain ⟨D, ⟨es, clock, h1, h2⟩, hR⟩ := h
 exact ⟨D, ⟨es, clock, hb.trans h1, h2⟩, hR⟩
theorem NamesAt.put {w : World} {bm : Nat} {l : List It} (h : NamesAt w bm l) (hl : l.length < 1000000) {x : It} (hs : x.name.size <= 100000) :
  ∃ w', (Instr.mapUpdate 195 (.map (some bm)) (.string x.name) (.agg #[])).run Tryz.prog w = .ok () w' /\ NamesAt w' bm (l ++ [x]) /\ w.grownBy w' (some bm) := by
 obtain ⟨D, hD, hR⟩ := h
 have hle := namesN_le l
 obtain ⟨w', hrun, g1, k1⟩ := hD.update lawStr Tryz.underlying195 (by unfold maxLen; omega) (keyStr hs) unitElem_mk
 have hR1 := hR.put x.name ()
 have e1 : (fun c => if c = x.name then some () else namesF l c) = namesF (l ++ [x]) := by
  funext c
  unfold namesF
  by_cases h : c = x.name
  ·simp [h]
  ·simp [h]
 have e2 : (if (namesF l x.name).isSome then namesN l else namesN l + 1) = namesN (l ++ [x]) := by
  rw [namesN_snoc]
  unfold namesF
  by_cases h : x.name ∈ l.map It.name
  ·rw [if_pos h, if_pos h]; rfl
  ·rw [if_neg h, if_neg h]; rfl
 rw [e1, e2] at hR1
 exact ⟨w', hrun, ⟨_, hR1.size ▸ ownsMap_norm g1, hR1⟩, k1⟩
theorem NamesAt.len {w : World} {bm : Nat} {l : List It} (h : NamesAt w bm l) (ty : TypeId) : (Builtin.len_ #[195] ty #[.map (some bm)]).run Tryz.prog w = .ok (.int .i64 (namesN l : Int)) w := by
 obtain ⟨D, hD, hR⟩ := h
 rw [hD.len Tryz.underlying195 ty, hR.size]
end Go.Proofs.YtmhophccdfmngaaGreatDoor
namespace Go.Proofs.YtmhophccdfmngaaGreatDoor
open Go.RowKit Sv
theorem pair_any (x : Ln) (v : Value) (w : World) :
  Calls Tryz.prog 87 #[.agg #[.int .i64 x.kind, .string x.name, .int .i64 x.a, .int .i64 x.b, .int .i64 x.c, .string x.other, v]] w fun e w' => e = .returned (.bool (decide x.pair)) /\ w' = w.alloc (.cells #[.int .i64 x.kind, .string x.name, .int .i64 x.a, .int .i64 x.b, .int .i64 x.c, .string x.other, v] 76) := by
 have hd : decide x.pair = (decide (x.kind = 2) || decide (x.kind = 3)) := by
  by_cases h2 : x.kind = 2 <;> by_cases h3 : x.kind = 3 <;> simp [Ln.pair, h2, h3]
 rw [hd]
 clear hd
 generalize x.kind = k
 by_cases h2 : k = 2
 ·subst h2
  go_enter Tryz.func87, Tryz.ntmps87
  go_wp2
  go_ret
  exact ⟨rfl, rfl⟩
 ·by_cases h3 : k = 3
  ·subst h3
   go_enter Tryz.func87, Tryz.ntmps87
   go_wp2
   go_ret
   exact ⟨rfl, rfl⟩
  ·have e2 : (k == 2) = false := by simpa using h2
   have e3 : (k == 3) = false := by simpa using h3
   have HD : Hid ((decide (k = 2) || decide (k = 3)) = false) := by show _ = _; simp [h2, h3]
   go_enter Tryz.func87, Tryz.ntmps87
   go_wp2
   go_ret
   exact ⟨by rw [HD.out]; rfl, rfl⟩
def wl : Nat -> List UInt8
 | 1 => [112, 97, 99, 107, 97, 103, 101]
 | 2 => [110, 101, 101, 100, 115]
 | 3 => [99, 108, 97, 115, 104, 101, 115]
 | 4 => [114, 111, 111, 116]
 | _ => []
structure WordsAt (w : World) : Prop where
 c0 : w.cell? ⟨2, 0, none⟩ = some (.string ⟨#[]⟩)
 c1 : w.cell? ⟨2, 1, none⟩ = some (.string ⟨#[112, 97, 99, 107, 97, 103, 101]⟩)
 c2 : w.cell? ⟨2, 2, none⟩ = some (.string ⟨#[110, 101, 101, 100, 115]⟩)
 c3 : w.cell? ⟨2, 3, none⟩ = some (.string ⟨#[99, 108, 97, 115, 104, 101, 115]⟩)
 c4 : w.cell? ⟨2, 4, none⟩ = some (.string ⟨#[114, 111, 111, 116]⟩)
theorem WordsAt.below {B : Nat} {w w' : World} (h : WordsAt w) (hb : Below B w w') (hB : 2 < B) : WordsAt w' :=
 ⟨(hb.cell (p := ⟨2, 0, none⟩) hB).trans h.c0, (hb.cell (p := ⟨2, 1, none⟩) hB).trans h.c1, (hb.cell (p := ⟨2, 2, none⟩) hB).trans h.c2, (hb.cell (p := ⟨2, 3, none⟩) hB).trans h.c3, (hb.cell (p := ⟨2, 4, none⟩) hB).trans h.c4⟩
abbrev wordsV : Value := .agg #[.string ⟨#[]⟩, .string ⟨#[112, 97, 99, 107, 97, 103, 101]⟩, .string ⟨#[110, 101, 101, 100, 115]⟩, .string ⟨#[99, 108, 97, 115, 104, 101, 115]⟩, .string ⟨#[114, 111, 111, 116]⟩]
theorem wix (W : World) : (Instr.index 202 wordsV (.int .i64 0)).run Tryz.prog W = .ok (.string ⟨#[]⟩) W /\ (Instr.index 202 wordsV (.int .i64 1)).run Tryz.prog W = .ok (.string ⟨#[112, 97, 99, 107, 97, 103, 101]⟩) W /\ (Instr.index 202 wordsV (.int .i64 2)).run Tryz.prog W = .ok (.string ⟨#[110, 101, 101, 100, 115]⟩) W /\ (Instr.index 202 wordsV (.int .i64 3)).run Tryz.prog W = .ok (.string ⟨#[99, 108, 97, 115, 104, 101, 115]⟩) W /\ (Instr.index 202 wordsV (.int .i64 4)).run Tryz.prog W = .ok (.string ⟨#[114, 111, 111, 116]⟩) W := by
 refine ⟨?_, ?_, ?_, ?_, ?_⟩ <;> kernel_rfl
theorem kindF_at {s : ByteArray} {k : Nat} (hk : 1 <= k) (hk4 : k <= 4) (h : s.toList = wl k) : kindF s = k := by
 match k, hk, hk4, h with
 | 1, _, _, h => unfold kindF; rw [h]; rfl
 | 2, _, _, h => unfold kindF; rw [h]; rfl
 | 3, _, _, h => unfold kindF; rw [h]; rfl
 | 4, _, _, h => unfold kindF; rw [h]; rfl
theorem kindF_none {s : ByteArray} (h : s.toList = [] \/ ∀ j, j < 5 -> s.toList ≠ wl j) : kindF s = 0 := by
 rcases h with h | h
 ·unfold kindF; rw [h]; rfl
 ·unfold kindF
  have h1 : s.toList ≠ [112, 97, 99, 107, 97, 103, 101] := h 1 (by omega)
  have h2 : s.toList ≠ [110, 101, 101, 100, 115] := h 2 (by omega)
  have h3 : s.toList ≠ [99, 108, 97, 115, 104, 101, 115] := h 3 (by omega)
  have h4 : s.toList ≠ [114, 111, 111, 116] := h 4 (by omega)
  rw [if_neg h1, if_neg h2, if_neg h3, if_neg h4]
theorem kind_any (s : ByteArray) (w : World) (hw : WordsAt w) :
  Calls Tryz.prog 99 #[.string s] w fun e w' => e = .returned (.int .i64 (kindF s : Nat)) /\ w' = w := by
 obtain ⟨c0, c1, c2, c3, c4⟩ := hw
 go_enter Tryz.func99, Tryz.ntmps99
 go_wp2_with fail
 clear c0 c1 c2 c3 c4
 go_loop [6] (fun i => ∃ k : Nat, k <= 5 /\ i = .int .i64 (k : Int) /\ ∀ j, j < k -> s.toList ≠ wl j) (fun i => 5 - (intOf i).toNat)
 case atStart => exact ⟨0, by omega, rfl, fun j h => by omega⟩
 case round =>
  obtain ⟨k, hk, rfl, hne⟩ := hrel
  obtain ⟨x0, x1, x2, x3, x4⟩ := wix w
  have HNE := Lib.hid hne
  clear hne
  by_cases h5 : k = 5
  ·subst h5
   have HK : Hid (kindF s = 0) := kindF_none (Or.inr HNE.out)
   go_wp2
   go_ret
   exact ⟨by rw [HK.out]; rfl, rfl⟩
  ·have h4 : k < 5 := by omega
   clear h5 hk
   by_cases hs : s.toList = wl k
   ·have HK : Hid (kindF s = k) := by
     show _ = _
     by_cases h0 : k = 0
     ·subst h0; exact kindF_none (Or.inl hs)
     ·exact kindF_at (by omega) (by omega) hs
    match k, h4 with
    | 0, _ =>
     have hb : (([] : List UInt8) == s.toList) = true := by rw [hs]; rfl
     have hb2 : s.toList.isEmpty = true := by rw [hs]; rfl
     clear hs
     go_wp2
     go_ret
     exact ⟨by rw [HK.out]; rfl, rfl⟩
    | 1, _ =>
     have hb : ([112, 97, 99, 107, 97, 103, 101] == s.toList) = true := by rw [hs]; rfl
     clear hs
     go_wp2
     go_ret
     exact ⟨by rw [HK.out]; rfl, rfl⟩
    | 2, _ =>
     have hb : ([110, 101, 101, 100, 115] == s.toList) = true := by rw [hs]; rfl
     clear hs
     go_wp2
     go_ret
     exact ⟨by rw [HK.out]; rfl, rfl⟩
    | 3, _ =>
     have hb : ([99, 108, 97, 115, 104, 101, 115] == s.toList) = true := by rw [hs]; rfl
     clear hs
     go_wp2
     go_ret
     exact ⟨by rw [HK.out]; rfl, rfl⟩
    | 4, _ =>
     have hb : ([114, 111, 111, 116] == s.toList) = true := by rw [hs]; rfl
     clear hs
     go_wp2
     go_ret
     exact ⟨by rw [HK.out]; rfl, rfl⟩
   ·have HN2 : Hid (∀ j, j < k + 1 -> s.toList ≠ wl j) := fun j hj => by
     rcases Nat.lt_succ_iff_lt_or_eq.1 hj with h | h
     ·exact HNE.out j h
     ·rw [h]; exact hs
    have hs' : (wl k == s.toList) = false := by rw [beq_eq_false_iff_ne]; exact fun e => hs e.symm
    clear hs
    match k, h4 with
    | 0, _ =>
     have hb : (([] : List UInt8) == s.toList) = false := hs'
     have hb2 : s.toList.isEmpty = false := by
      cases h : s.toList with
      | nil => rw [h] at hb; cases hb
      | cons a t => rfl
     clear hs'
     go_wp2
     go_round
     case rel => exact ⟨1, by omega, rfl, HN2.out⟩
     case measure => simp [intOf]
    | 1, _ =>
     have hb : ([112, 97, 99, 107, 97, 103, 101] == s.toList) = false := hs'
     clear hs'
     go_wp2
     go_round
     case rel => exact ⟨2, by omega, rfl, HN2.out⟩
     case measure => simp [intOf]
    | 2, _ =>
     have hb : ([110, 101, 101, 100, 115] == s.toList) = false := hs'
     clear hs'
     go_wp2
     go_round
     case rel => exact ⟨3, by omega, rfl, HN2.out⟩
     case measure => simp [intOf]
    | 3, _ =>
     have hb : ([99, 108, 97, 115, 104, 101, 115] == s.toList) = false := hs'
     clear hs'
     go_wp2
     go_round
     case rel => exact ⟨4, by omega, rfl, HN2.out⟩
     case measure => simp [intOf]
    | 4, _ =>
     have hb : ([114, 111, 111, 116] == s.toList) = false := hs'
     clear hs'
     go_wp2
     go_round
     case rel => exact ⟨5, by omega, rfl, HN2.out⟩
     case measure => simp [intOf]
end Go.Proofs.YtmhophccdfmngaaGreatDoor
namespace Go.Proofs
open Go.Shelf
def Tryz.sortItem_ren : Go.Shelf.Ren := ⟨fun | 6 => 124 | 15 => 155 | 14 => 154 | 28 => 188 | 29 => 189 | 20 => 180 | 21 => 181 | 22 => 182 | 23 => 183 | 24 => 184 | 25 => 185 | 26 => 186 | 27 => 187 | 46 => 202 | 47 => 203 | 48 => 204 | 49 => 205 | 50 => 206 | 57 => 217 | n => n, fun | 22 => 64 | 24 => 71 | 25 => 200 | 3 => 3 | 39 => 105 | 0 => 0 | 53 => 258 | 55 => 260 | 4 => 4 | 46 => 252 | 45 => 251 | 50 => 208 | 5 => 5 | 9 => 9 | 66 => 278 | 70 => 282 | 76 => 299 | 77 => 300 | n => n, fun | n => n⟩
theorem Tryz.sortItem : Go.Proofs.SlLaysF0.n6 Tryz.prog Tryz.sortItem_ren := {
 mixed := by kernel_rfl
 f6 := ⟨Tryz.f124.name, by decide, Tryz.func124.trans (congrArg some (by kernel_rfl))⟩
 f14 := ⟨Tryz.f154.name, by decide, Tryz.func154.trans (congrArg some (by kernel_rfl))⟩
 f15 := Tryz.func155.trans (congrArg some (by kernel_rfl))
 f20 := ⟨Tryz.f180.name, by decide, Tryz.func180.trans (congrArg some (by kernel_rfl))⟩
 f21 := ⟨Tryz.f181.name, by decide, Tryz.func181.trans (congrArg some (by kernel_rfl))⟩
 f22 := ⟨Tryz.f182.name, by decide, Tryz.func182.trans (congrArg some (by kernel_rfl))⟩
 f23 := ⟨Tryz.f183.name, by decide, Tryz.func183.trans (congrArg some (by kernel_rfl))⟩
 f24 := ⟨Tryz.f184.name, by decide, Tryz.func184.trans (congrArg some (by kernel_rfl))⟩
 f25 := ⟨Tryz.f185.name, by decide, Tryz.func185.trans (congrArg some (by kernel_rfl))⟩
 f26 := ⟨Tryz.f186.name, by decide, Tryz.func186.trans (congrArg some (by kernel_rfl))⟩
 f27 := ⟨Tryz.f187.name, by decide, Tryz.func187.trans (congrArg some (by kernel_rfl))⟩
 f28 := Tryz.func188.trans (congrArg some (by kernel_rfl))
 f29 := Tryz.func189.trans (congrArg some (by kernel_rfl))
 f46 := ⟨Tryz.f202.name, by decide, Tryz.func202.trans (congrArg some (by kernel_rfl))⟩
 f47 := Tryz.func203.trans (congrArg some (by kernel_rfl))
 f48 := Tryz.func204.trans (congrArg some (by kernel_rfl))
 f49 := ⟨Tryz.f205.name, by decide, Tryz.func205.trans (congrArg some (by kernel_rfl))⟩
 f50 := ⟨Tryz.f206.name, by decide, Tryz.func206.trans (congrArg some (by kernel_rfl))⟩
 f57 := ⟨Tryz.f217.name, by decide, Tryz.func217.trans (congrArg some (by kernel_rfl))⟩
 t0 := Tryz.underlying0
 a0 := Tryz.isAgg0
 z0 := Tryz.sizeOf0
 v0 := Tryz.zeroValue0
 t3 := Tryz.underlying3
 a3 := Tryz.isAgg3
 z3 := Tryz.sizeOf3
 v3 := Tryz.zeroValue3
 t4 := Tryz.underlying4
 a4 := Tryz.isAgg4
 z4 := Tryz.sizeOf4
 v4 := Tryz.zeroValue4
 t5 := Tryz.underlying5
 a5 := Tryz.isAgg5
 z5 := Tryz.sizeOf5
 v5 := Tryz.zeroValue5
 t9 := Tryz.underlying9
 a9 := Tryz.isAgg9
 z9 := Tryz.sizeOf9
 v9 := Tryz.zeroValue9
 t22 := Tryz.underlying64
 a22 := Tryz.isAgg64
 z22 := Tryz.sizeOf64
 v22 := Tryz.zeroValue64
 t25 := Tryz.underlying200
 a25 := Tryz.isAgg200
 z25 := Tryz.sizeOf200
 v25 := Tryz.zeroValue200
 t39 := Tryz.underlying105
 a39 := Tryz.isAgg105
 z39 := Tryz.sizeOf105
 v39 := Tryz.zeroValue105
 t45 := Tryz.underlying251
 a45 := Tryz.isAgg251
 z45 := Tryz.sizeOf251
 v45 := Tryz.zeroValue251
 t46 := Tryz.underlying252
 a46 := Tryz.isAgg252
 z46 := Tryz.sizeOf252
 v46 := Tryz.zeroValue252
 t50 := Tryz.underlying208
 a50 := Tryz.isAgg208
 z50 := Tryz.sizeOf208
 v50 := Tryz.zeroValue208
 t53 := Tryz.underlying258
 a53 := Tryz.isAgg258
 z53 := Tryz.sizeOf258
 v53 := Tryz.zeroValue258
 t55 := Tryz.underlying260
 a55 := Tryz.isAgg260
 z55 := Tryz.sizeOf260
 v55 := Tryz.zeroValue260
 t66 := Tryz.underlying278
 a66 := Tryz.isAgg278
 z66 := Tryz.sizeOf278
 v66 := Tryz.zeroValue278
 t70 := Tryz.underlying282
 a70 := Tryz.isAgg282
 z70 := Tryz.sizeOf282
 v70 := Tryz.zeroValue282
 t76 := Tryz.underlying299
 a76 := Tryz.isAgg299
 z76 := Tryz.sizeOf299
 v76 := Tryz.zeroValue299
 t77 := Tryz.underlying300
 a77 := Tryz.isAgg300
 z77 := Tryz.sizeOf300
 v77 := Tryz.zeroValue300 }
def Tryz.ixItem_ren : Go.Shelf.Ren := ⟨fun | 6 => 93 | n => n, fun | 22 => 64 | 24 => 71 | 3 => 3 | 0 => 0 | 4 => 4 | n => n, fun | n => n⟩
theorem Tryz.ixItem : Go.Proofs.SlLaysQ.n6 Tryz.prog Tryz.ixItem_ren := {
 mixed := by kernel_rfl
 f6 := ⟨Tryz.f93.name, by decide, Tryz.func93.trans (congrArg some (by kernel_rfl))⟩
 t0 := Tryz.underlying0
 a0 := Tryz.isAgg0
 z0 := Tryz.sizeOf0
 v0 := Tryz.zeroValue0
 t3 := Tryz.underlying3
 a3 := Tryz.isAgg3
 z3 := Tryz.sizeOf3
 v3 := Tryz.zeroValue3
 t4 := Tryz.underlying4
 a4 := Tryz.isAgg4
 z4 := Tryz.sizeOf4
 v4 := Tryz.zeroValue4
 t22 := Tryz.underlying64
 a22 := Tryz.isAgg64
 z22 := Tryz.sizeOf64
 v22 := Tryz.zeroValue64 }
def Tryz.hasItem_ren : Go.Shelf.Ren := ⟨fun | 7 => 123 | 6 => 93 | n => n, fun | 22 => 64 | 24 => 71 | 4 => 4 | 0 => 0 | 3 => 3 | n => n, fun | n => n⟩
theorem Tryz.hasItem : Go.Proofs.SlLaysQ.n7 Tryz.prog Tryz.hasItem_ren := {
 mixed := by kernel_rfl
 f6 := ⟨Tryz.f93.name, by decide, Tryz.func93.trans (congrArg some (by kernel_rfl))⟩
 f7 := ⟨Tryz.f123.name, by decide, Tryz.func123.trans (congrArg some (by kernel_rfl))⟩
 t0 := Tryz.underlying0
 a0 := Tryz.isAgg0
 z0 := Tryz.sizeOf0
 v0 := Tryz.zeroValue0
 t3 := Tryz.underlying3
 a3 := Tryz.isAgg3
 z3 := Tryz.sizeOf3
 v3 := Tryz.zeroValue3
 t4 := Tryz.underlying4
 a4 := Tryz.isAgg4
 z4 := Tryz.sizeOf4
 v4 := Tryz.zeroValue4
 t22 := Tryz.underlying64
 a22 := Tryz.isAgg64
 z22 := Tryz.sizeOf64
 v22 := Tryz.zeroValue64 }
def Tryz.clnLine_ren : Go.Shelf.Ren := ⟨fun | 41 => 85 | n => n, fun | 22 => 54 | 23 => 76 | 4 => 4 | n => n, fun | n => n⟩
theorem Tryz.clnLine : Go.Proofs.SlLaysE0.n41 Tryz.prog Tryz.clnLine_ren := {
 mixed := by kernel_rfl
 f41 := ⟨Tryz.f85.name, by decide, Tryz.func85.trans (congrArg some (by kernel_rfl))⟩
 t4 := Tryz.underlying4
 a4 := Tryz.isAgg4
 z4 := Tryz.sizeOf4
 v4 := Tryz.zeroValue4
 t22 := Tryz.underlying54
 a22 := Tryz.isAgg54
 z22 := Tryz.sizeOf54
 v22 := Tryz.zeroValue54 }
end Go.Proofs
namespace Go.Proofs.YtmhophccdfmngaaGreatDoor
open Go.RowKit Go.Shelf Go.Lib Sv
theorem eq3 (a b c a' b' c' : Int) (w : World) : (Op.equalIn 9999 42 (.agg #[.int .i64 a, .int .i64 b, .int .i64 c]) (.agg #[.int .i64 a', .int .i64 b', .int .i64 c'])).run Tryz.prog w = .ok (a == a' && (b == b' && c == c')) w := by
 have u3 := Tryz.underlying3
 have a3 := Tryz.isAgg3
 have z3 := Tryz.sizeOf3
 rw [show (9999 : Nat) = 9998 + 1 from rfl, Op.equalIn]
 simp only [Sem.run_bind, run_underlying Tryz.underlying42, Result.andThen_ok]
 simp only [Std.Legacy.Range.forIn_eq_forIn_range', Std.Legacy.Range.size, Nat.sub_zero, Nat.add_sub_cancel, Nat.div_one, List.range'_succ, List.range'_zero, List.forIn_cons, List.forIn_nil]
 by_cases h1 : a = a'
 ·by_cases h2 : b = b'
  ·by_cases h3 : c = c'
   ·subst h1 h2 h3; go_simp
   ·have e3 : (c == c') = false := by simpa using h3
    subst h1 h2; go_simp
  ·have e2 : (b == b') = false := by simpa using h2
   subst h1; go_simp
 ·have e1 : (a == a') = false := by simpa using h1
  go_simp
theorem eqIt : EqlAt Tryz.prog 71 (fun x => .agg (encIt x).toArray) (fun x y => decide (x = y)) := by
 refine ⟨fun x y w => ?_, GuardAt.agg _ (by kernel_rfl)⟩
 have u3 := Tryz.underlying3
 have a3 := Tryz.isAgg3
 have z3 := Tryz.sizeOf3
 have u9 := Tryz.underlying9
 have a9 := Tryz.isAgg9
 have z9 := Tryz.sizeOf9
 have av := Tryz.isAgg42
 have zv := Tryz.sizeOf42
 have hS : Tryz.prog.underlying 71 = some (.struct (Tryz.prog.fieldsOf 71)) := by kernel_rfl
 have hp : Tryz.prog.stoodInHeld 71 = false := by kernel_rfl
 have he : decide (x = y) = (x.name.toList == y.name.toList && (x.a == y.a && (x.b == y.b && x.c == y.c))) := by
  obtain ⟨n, a, b, c⟩ := x
  obtain ⟨n', a', b', c'⟩ := y
  rw [Bool.eq_iff_iff]
  simp only [decide_eq_true_eq, It.mk.injEq, Bool.and_eq_true, beq_iff_eq]
  constructor
  ·rintro ⟨rfl, rfl, rfl, rfl⟩; exact ⟨rfl, rfl, rfl, rfl⟩
  ·rintro ⟨h, rfl, rfl, rfl⟩; exact ⟨bytes_eq h, rfl, rfl, rfl⟩
 show (binOp .eql 71 (.agg (encIt x).toArray) (.agg (encIt y).toArray)).run Tryz.prog w = .ok (.bool (decide (x = y))) w
 rw [he]
 simp only [encIt]
 have h3 := eq3 x.a x.b x.c y.a y.b y.c
 generalize x.name = n at *
 generalize y.name = n' at *
 generalize x.a = a at *
 generalize x.b = b at *
 generalize x.c = c at *
 generalize y.a = a' at *
 generalize y.b = b' at *
 generalize y.c = c' at *
 generalize (a == a' && (b == b' && c == c')) = q at *
 clear he
 rw [run_eql_struct, show (10000 : Nat) = 9999 + 1 from rfl, run_equalIn_agg w 9999 71 _ _ hS hp]
 simp only [Program.fieldsOf, Tryz.underlying71]
 cases hn : (n.toList == n'.toList) <;> cases q <;> go_simp
end Go.Proofs.YtmhophccdfmngaaGreatDoor
namespace Go.Proofs.YtmhophccdfmngaaGreatDoor
open Go.RowKit Sv
theorem has_out0neg (va : Option Addr) (vl vc : Nat) (a b c : Int) (hx : a < 0) (w : World) :
  Calls Tryz.prog 25 #[.agg #[.slice va vl vc], .agg #[.int .i64 a, .int .i64 b, .int .i64 c]] w fun e w' => e = .returned (.bool false) /\ Below w.heap.size w w' := by
 have hB0 : Below w.heap.size w ((w.alloc (.cells #[.slice va vl vc] 31)).alloc (.cells #[.int .i64 a, .int .i64 b, .int .i64 c] 42)) := ((Below.refl _ w).alloc (Nat.le_refl _) _).alloc (by simp only [World.size_alloc]; omega) _
 have HB0 := Lib.hid hB0
 clear hB0
 go_enter Tryz.func25, Tryz.ntmps25
 go_wp2_with fail
 generalize (w.alloc (.cells #[.slice va vl vc] 31)).alloc (.cells #[.int .i64 a, .int .i64 b, .int .i64 c] 42) = W0 at *
 go_loop [10] (fun i => ∃ k : Nat, k <= 0 /\ i = .int .i64 (k : Int)) (fun i => 3 - (intOf i).toNat)
 case atStart => exact ⟨0, by omega, rfl⟩
 case round =>
  obtain ⟨k, hk, rfl⟩ := hrel
  match k, hk with
  | 0, _ =>
   have hix := idx0 a b c W0
   go_wp2
   go_ret
   exact ⟨rfl, HB0.out⟩
theorem has_out0big (va : Option Addr) (vl vc : Nat) (a b c : Int) (hx0 : ¬ a < 0) (hx : 999 < a) (w : World) :
  Calls Tryz.prog 25 #[.agg #[.slice va vl vc], .agg #[.int .i64 a, .int .i64 b, .int .i64 c]] w fun e w' => e = .returned (.bool false) /\ Below w.heap.size w w' := by
 have hB0 : Below w.heap.size w ((w.alloc (.cells #[.slice va vl vc] 31)).alloc (.cells #[.int .i64 a, .int .i64 b, .int .i64 c] 42)) := ((Below.refl _ w).alloc (Nat.le_refl _) _).alloc (by simp only [World.size_alloc]; omega) _
 have HB0 := Lib.hid hB0
 clear hB0
 go_enter Tryz.func25, Tryz.ntmps25
 go_wp2_with fail
 generalize (w.alloc (.cells #[.slice va vl vc] 31)).alloc (.cells #[.int .i64 a, .int .i64 b, .int .i64 c] 42) = W0 at *
 go_loop [10] (fun i => ∃ k : Nat, k <= 0 /\ i = .int .i64 (k : Int)) (fun i => 3 - (intOf i).toNat)
 case atStart => exact ⟨0, by omega, rfl⟩
 case round =>
  obtain ⟨k, hk, rfl⟩ := hrel
  match k, hk with
  | 0, _ =>
   have hix := idx0 a b c W0
   go_wp2
   go_ret
   exact ⟨rfl, HB0.out⟩
theorem has_out1neg (va : Option Addr) (vl vc : Nat) (a b c : Int) (ha0 : ¬ a < 0) (ha1 : ¬ 999 < a) (hx : b < 0) (w : World) :
  Calls Tryz.prog 25 #[.agg #[.slice va vl vc], .agg #[.int .i64 a, .int .i64 b, .int .i64 c]] w fun e w' => e = .returned (.bool false) /\ Below w.heap.size w w' := by
 have hB0 : Below w.heap.size w ((w.alloc (.cells #[.slice va vl vc] 31)).alloc (.cells #[.int .i64 a, .int .i64 b, .int .i64 c] 42)) := ((Below.refl _ w).alloc (Nat.le_refl _) _).alloc (by simp only [World.size_alloc]; omega) _
 have HB0 := Lib.hid hB0
 clear hB0
 go_enter Tryz.func25, Tryz.ntmps25
 go_wp2_with fail
 generalize (w.alloc (.cells #[.slice va vl vc] 31)).alloc (.cells #[.int .i64 a, .int .i64 b, .int .i64 c] 42) = W0 at *
 go_loop [10] (fun i => ∃ k : Nat, k <= 1 /\ i = .int .i64 (k : Int)) (fun i => 3 - (intOf i).toNat)
 case atStart => exact ⟨0, by omega, rfl⟩
 case round =>
  obtain ⟨k, hk, rfl⟩ := hrel
  match k, hk with
  | 0, _ =>
   have hix := idx0 a b c W0
   go_wp2
   go_round
   case rel => exact ⟨1, by omega, rfl⟩
   case measure => simp [intOf]
  | 1, _ =>
   have hix := idx1 a b c W0
   go_wp2
   go_ret
   exact ⟨rfl, HB0.out⟩
theorem has_out1big (va : Option Addr) (vl vc : Nat) (a b c : Int) (ha0 : ¬ a < 0) (ha1 : ¬ 999 < a) (hx0 : ¬ b < 0) (hx : 999 < b) (w : World) :
  Calls Tryz.prog 25 #[.agg #[.slice va vl vc], .agg #[.int .i64 a, .int .i64 b, .int .i64 c]] w fun e w' => e = .returned (.bool false) /\ Below w.heap.size w w' := by
 have hB0 : Below w.heap.size w ((w.alloc (.cells #[.slice va vl vc] 31)).alloc (.cells #[.int .i64 a, .int .i64 b, .int .i64 c] 42)) := ((Below.refl _ w).alloc (Nat.le_refl _) _).alloc (by simp only [World.size_alloc]; omega) _
 have HB0 := Lib.hid hB0
 clear hB0
 go_enter Tryz.func25, Tryz.ntmps25
 go_wp2_with fail
 generalize (w.alloc (.cells #[.slice va vl vc] 31)).alloc (.cells #[.int .i64 a, .int .i64 b, .int .i64 c] 42) = W0 at *
 go_loop [10] (fun i => ∃ k : Nat, k <= 1 /\ i = .int .i64 (k : Int)) (fun i => 3 - (intOf i).toNat)
 case atStart => exact ⟨0, by omega, rfl⟩
 case round =>
  obtain ⟨k, hk, rfl⟩ := hrel
  match k, hk with
  | 0, _ =>
   have hix := idx0 a b c W0
   go_wp2
   go_round
   case rel => exact ⟨1, by omega, rfl⟩
   case measure => simp [intOf]
  | 1, _ =>
   have hix := idx1 a b c W0
   go_wp2
   go_ret
   exact ⟨rfl, HB0.out⟩
theorem has_out2neg (va : Option Addr) (vl vc : Nat) (a b c : Int) (ha0 : ¬ a < 0) (ha1 : ¬ 999 < a) (hb0 : ¬ b < 0) (hb1 : ¬ 999 < b) (hx : c < 0) (w : World) :
  Calls Tryz.prog 25 #[.agg #[.slice va vl vc], .agg #[.int .i64 a, .int .i64 b, .int .i64 c]] w fun e w' => e = .returned (.bool false) /\ Below w.heap.size w w' := by
 have hB0 : Below w.heap.size w ((w.alloc (.cells #[.slice va vl vc] 31)).alloc (.cells #[.int .i64 a, .int .i64 b, .int .i64 c] 42)) := ((Below.refl _ w).alloc (Nat.le_refl _) _).alloc (by simp only [World.size_alloc]; omega) _
 have HB0 := Lib.hid hB0
 clear hB0
 go_enter Tryz.func25, Tryz.ntmps25
 go_wp2_with fail
 generalize (w.alloc (.cells #[.slice va vl vc] 31)).alloc (.cells #[.int .i64 a, .int .i64 b, .int .i64 c] 42) = W0 at *
 go_loop [10] (fun i => ∃ k : Nat, k <= 2 /\ i = .int .i64 (k : Int)) (fun i => 3 - (intOf i).toNat)
 case atStart => exact ⟨0, by omega, rfl⟩
 case round =>
  obtain ⟨k, hk, rfl⟩ := hrel
  match k, hk with
  | 0, _ =>
   have hix := idx0 a b c W0
   go_wp2
   go_round
   case rel => exact ⟨1, by omega, rfl⟩
   case measure => simp [intOf]
  | 1, _ =>
   have hix := idx1 a b c W0
   go_wp2
   go_round
   case rel => exact ⟨2, by omega, rfl⟩
   case measure => simp [intOf]
  | 2, _ =>
   have hix := idx2 a b c W0
   go_wp2
   go_ret
   exact ⟨rfl, HB0.out⟩
theorem has_out2big (va : Option Addr) (vl vc : Nat) (a b c : Int) (ha0 : ¬ a < 0) (ha1 : ¬ 999 < a) (hb0 : ¬ b < 0) (hb1 : ¬ 999 < b) (hx0 : ¬ c < 0) (hx : 999 < c) (w : World) :
  Calls Tryz.prog 25 #[.agg #[.slice va vl vc], .agg #[.int .i64 a, .int .i64 b, .int .i64 c]] w fun e w' => e = .returned (.bool false) /\ Below w.heap.size w w' := by
 have hB0 : Below w.heap.size w ((w.alloc (.cells #[.slice va vl vc] 31)).alloc (.cells #[.int .i64 a, .int .i64 b, .int .i64 c] 42)) := ((Below.refl _ w).alloc (Nat.le_refl _) _).alloc (by simp only [World.size_alloc]; omega) _
 have HB0 := Lib.hid hB0
 clear hB0
 go_enter Tryz.func25, Tryz.ntmps25
 go_wp2_with fail
 generalize (w.alloc (.cells #[.slice va vl vc] 31)).alloc (.cells #[.int .i64 a, .int .i64 b, .int .i64 c] 42) = W0 at *
 go_loop [10] (fun i => ∃ k : Nat, k <= 2 /\ i = .int .i64 (k : Int)) (fun i => 3 - (intOf i).toNat)
 case atStart => exact ⟨0, by omega, rfl⟩
 case round =>
  obtain ⟨k, hk, rfl⟩ := hrel
  match k, hk with
  | 0, _ =>
   have hix := idx0 a b c W0
   go_wp2
   go_round
   case rel => exact ⟨1, by omega, rfl⟩
   case measure => simp [intOf]
  | 1, _ =>
   have hix := idx1 a b c W0
   go_wp2
   go_round
   case rel => exact ⟨2, by omega, rfl⟩
   case measure => simp [intOf]
  | 2, _ =>
   have hix := idx2 a b c W0
   go_wp2
   go_ret
   exact ⟨rfl, HB0.out⟩
theorem has_out (va : Option Addr) (vl vc : Nat) (a b c : Int) (h : ¬ ((0 <= a /\ a <= 999) /\ (0 <= b /\ b <= 999) /\ (0 <= c /\ c <= 999))) (w : World) :
  Calls Tryz.prog 25 #[.agg #[.slice va vl vc], .agg #[.int .i64 a, .int .i64 b, .int .i64 c]] w fun e w' => e = .returned (.bool false) /\ Below w.heap.size w w' := by
 by_cases a0 : a < 0
 ·exact has_out0neg va vl vc a b c a0 w
 by_cases a1 : 999 < a
 ·exact has_out0big va vl vc a b c a0 a1 w
 by_cases b0 : b < 0
 ·exact has_out1neg va vl vc a b c a0 a1 b0 w
 by_cases b1 : 999 < b
 ·exact has_out1big va vl vc a b c a0 a1 b0 b1 w
 by_cases c0 : c < 0
 ·exact has_out2neg va vl vc a b c a0 a1 b0 b1 c0 w
 by_cases c1 : 999 < c
 ·exact has_out2big va vl vc a b c a0 a1 b0 b1 c0 c1 w
 exact absurd ⟨⟨by omega, by omega⟩, ⟨by omega, by omega⟩, ⟨by omega, by omega⟩⟩ h
end Go.Proofs.YtmhophccdfmngaaGreatDoor
