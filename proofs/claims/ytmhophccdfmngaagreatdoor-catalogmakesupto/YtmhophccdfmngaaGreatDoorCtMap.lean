/- Maps by names. -/
import Derived.Test.YtmhophccdfmngaaGreatDoorClBaseI
import Derived.Test.YtmhophccdfmngaaGreatDoorSvCuts
import Derived.Laws.NewBlocks
import Derived.Maps.AppendAt
import Derived.OneCell
import Derived.OwnWalk
import Derived.Lib.Builder
import Derived.Deep.AppendLies
import Derived.Laws.OwnMore
import Derived.Deep.MidRow
import Derived.WalkSmall
import Derived.Deep.RegionLaw
import Derived.DeepKeys4
import Derived.Maps.OwnSet
import Derived.Maps.OwnOps
import Derived.StringKeys
namespace Go.Proofs.YtmhophccdfmngaaGreatDoor
section
open Go.RowKit Go.Deep
theorem add_plain (b o i : Nat) : (⟨b, o, none⟩ : Addr).add i = ⟨b, o + i, none⟩ := by
 unfold Addr.add
 by_cases h : i = 0
 ·subst h; rfl
 ·rw [if_neg h]
def icells (l : List Int) : List Value := l.map (Value.int .i64)
theorem icells_at (l : List Int) (i : Nat) (h : i < l.length) : (icells l)[i]? = some (.int .i64 (l.getD i 0)) := by simp [icells, List.getD_eq_getElem?_getD, h]
theorem icells_snoc (l : List Int) (x : Int) : icells (l ++ [x]) = icells l ++ [.int .i64 x] := by simp [icells]
theorem infoInt : (Tryz.prog.info? 3).map (fun i => (i.zero, i.size, i.bytes)) = some (some (.int .i64 0), 1, 8) := by kernel_rfl
theorem cell_lit (w : World) (x : Int) (t : TypeId) : ∀ (j : Nat) (u : Value), [Value.int .i64 x][j]? = some u -> (w.alloc (.cells #[.int .i64 x] t)).cell? ((⟨w.heap.size, 0, none⟩ : Addr).add j) = some u := by
 intro j u hu
 cases j with
 | zero => simp at hu; subst hu; rw [add_plain]; simp
 | succ j => simp at hu
theorem one_lit (x : Int) : ∀ u ∈ [Value.int .i64 x], u.oneCell' = true := by
 intro u hu
 rw [List.mem_singleton] at hu
 subst hu
 rfl
theorem drop_cons {α : Type} {l : List α} {k : Nat} {d : α} (h : k < l.length) : l.drop k = l.getD k d :: l.drop (k + 1) := by
 rw [List.drop_eq_getElem_cons h, List.getD_eq_getElem?_getD, List.getElem?_eq_getElem h]; rfl
theorem ownsRow_base {w : World} {base base' : Nat} {e : TypeId} {size : Nat} {v : Value} {n : Nat} {xs : List Value} (h : w.ownsRow base e size v n xs) (hb : base' <= base) : w.ownsRow base' e size v n xs := by
 obtain ⟨h1, h2⟩ := h
 refine ⟨h1, ?_⟩
 rcases h2 with h2 | ⟨g, cap, cur, hv, hg, r⟩
 ·exact Or.inl h2
 ·exact Or.inr ⟨g, cap, cur, hv, Nat.le_trans hb hg, r⟩
end
section
open Go.RowKit Go.Deep
structure Kp (B : Nat) (w w' : World) : Prop where
 size : w.heap.size <= w'.heap.size
 block : ∀ k, k < w.heap.size -> (k < B \/ ∃ cur fr, w.heap[k]? = some (.cells cur 3 fr)) -> w'.heap[k]? = w.heap[k]?
section
variable {B : Nat} {w w' w'' : World}
theorem Kp.refl (B : Nat) (w : World) : Kp B w w := ⟨Nat.le_refl _, fun _ _ _ => rfl⟩
theorem Kp.trans (h : Kp B w w') (h2 : Kp B w' w'') : Kp B w w'' := ⟨Nat.le_trans h.size h2.size, fun k hk hc => by
 have e := h.block k hk hc
 rw [<- e]
 refine h2.block k (Nat.lt_of_lt_of_le hk h.size) ?_
 rw [e]; exact hc⟩
theorem Kp.zero (h : Kp B w w') : Kp 0 w w' := ⟨h.size, fun k hk hc => h.block k hk (hc.imp (fun h => by omega) id)⟩
theorem Kp.new (hb : Below w.heap.size w w') : Kp B w w' := ⟨hb.size, fun k hk _ => hb.block k hk⟩
theorem Kp.set {b i : Nat} {t : TypeId} {cs : Array Value} {v : Value} (hB : B <= b) (h : Blk w b t cs) (ht : t ≠ 3) : Kp B w (w.setCell ⟨b, i, none⟩ v) := by
 refine ⟨by simp [World.setCell], fun k hk hc => Below.heap_setCell _ _ _ k (fun e => ?_)⟩
 have e' : k = b := e
 subst e'
 rcases hc with hc | ⟨cur, fr, hc⟩
 ·omega
 ·rw [show w.heap[k]? = _ from h] at hc
  simp only [Option.some.injEq, Obj.cells.injEq] at hc
  exact ht hc.2.1
theorem Kp.grown {e : TypeId} {size n : Nat} {v : Value} {xs : List Value} (h : w.ownsRow B e size v n xs) (hg : w.grownBy w' v.ownBlock) (he : e ≠ 3) : Kp B w w' := by
 refine ⟨hg.size, fun k hk hc => hg.block k hk (fun e' => ?_)⟩
 obtain ⟨h1, h2⟩ := h.lt k e'.symm
 rcases hc with hc | ⟨cur, fr, hc⟩
 ·omega
 ·rcases h.2 with ⟨hv, _⟩ | ⟨g, cap, cur', hv, _, hg', _⟩
  ·rw [hv] at e'; cases e'
  ·rw [hv] at e'
   simp only [Value.ownBlock, Option.some.injEq] at e'
   subst e'
   rw [hg'] at hc
   simp only [Option.some.injEq, Obj.cells.injEq] at hc
   exact he hc.2.1
def IntsK (B : Nat) (w : World) (a : Option Addr) (xs : List Int) : Prop :=
 ∀ i, i < xs.length -> ∃ ad : Addr, a = some ad /\ ad.block < w.heap.size /\ (ad.block < B \/ ∃ cur fr, w.heap[ad.block]? = some (.cells cur 3 fr)) /\ w.cell? (ad.add i) = some (.int .i64 (xs.getD i 0))
theorem IntsK.ints {a : Option Addr} {xs : List Int} (h : IntsK B w a xs) : IntsIn w a xs := fun i hi => by
 obtain ⟨ad, h1, h2, _, h4⟩ := h i hi
 exact ⟨ad, h1, h2, h4⟩
theorem IntsK.kp {a : Option Addr} {xs : List Int} (h : IntsK B w a xs) (hk : Kp B w w') : IntsK B w' a xs := fun i hi => by
 obtain ⟨ad, h1, h2, h3, h4⟩ := h i hi
 have e := hk.block _ h2 h3
 refine ⟨ad, h1, Nat.lt_of_lt_of_le h2 hk.size, by rw [e]; exact h3, ?_⟩
 rw [World.cell?_of_block (w := w) (by rw [addr_block]; exact e)]; exact h4
theorem IntsK.more {a : Option Addr} {xs : List Int} (h : IntsK 0 w a xs) : IntsK B w a xs := fun i hi => by
 obtain ⟨ad, h1, h2, h3, h4⟩ := h i hi
 exact ⟨ad, h1, h2, h3.imp (fun h => by omega) id, h4⟩
theorem IntsK.of {a : Option Addr} {xs : List Int} (h : IntsIn w a xs) (hb : Below w.heap.size w w') : IntsK w.heap.size w' a xs := fun i hi => by
 obtain ⟨ad, h1, h2, h3⟩ := h.below hb i hi
 obtain ⟨ad', h4, h5, _⟩ := h i hi
 obtain rfl := Option.some.inj (h1.symm.trans h4)
 exact ⟨ad, h1, h2, Or.inl h5, h3⟩
def ClsK (B : Nat) (w : World) (cs : List Value) (l : List (List Int)) : Prop :=
 cs.length = l.length /\ ∀ i, i < l.length -> ∃ (a : Option Addr) (cap : Nat), cs[i]? = some (.slice a (l.getD i []).length cap) /\ (l.getD i []).length <= cap /\ cap <= 9223372036854775807 /\ IntsK B w a (l.getD i [])
theorem ClsK.kp {cs : List Value} {l : List (List Int)} (h : ClsK B w cs l) (hk : Kp B w w') : ClsK B w' cs l := ⟨h.1, fun i hi => by
 obtain ⟨a, cap, h1, h2, h3, h4⟩ := h.2 i hi
 exact ⟨a, cap, h1, h2, h3, h4.kp hk⟩⟩
theorem ClsK.nil : ClsK B w [] [] := ⟨rfl, fun i hi => by simp at hi⟩
theorem ClsK.snoc {cs : List Value} {l : List (List Int)} (h : ClsK B w cs l) {a : Option Addr} {cap : Nat} {c : List Int} (h1 : c.length <= cap) (h2 : cap <= 9223372036854775807) (h3 : IntsK B w a c) : ClsK B w (cs ++ [.slice a c.length cap]) (l ++ [c]) := by
 refine ⟨by simp [h.1], fun i hi => ?_⟩
 by_cases hl : i < l.length
 ·have e : (l ++ [c]).getD i [] = l.getD i [] := by simp [List.getD_eq_getElem?_getD, List.getElem?_append_left hl]
  rw [e, List.getElem?_append_left (by rw [h.1]; exact hl)]
  exact h.2 i hl
 ·have hi' : i = l.length := by simp at hi; omega
  subst hi'
  have e : (l ++ [c]).getD l.length [] = c := by simp [List.getD_eq_getElem?_getD]
  rw [e, List.getElem?_append_right (by rw [h.1]; exact Nat.le_refl _), h.1]
  exact ⟨a, cap, by simp, h1, h2, h3⟩
theorem ClsK.one {cs : List Value} {l : List (List Int)} (h : ClsK B w cs l) : ∀ u ∈ cs, u.oneCell' = true := fun u hu => by
 obtain ⟨i, hi, rfl⟩ := List.getElem_of_mem hu
 obtain ⟨a, cap, h1, _⟩ := h.2 i (by rw [<- h.1]; exact hi)
 rw [List.getElem?_eq_getElem hi] at h1
 rw [Option.some.inj h1]
 rfl
end
theorem ownBlock_ne' {w : World} {B : Nat} {e T : TypeId} {size : Nat} {v : Value} {n : Nat} {xs : List Value} {b : Nat} {cs : Array Value} (hown : w.ownsRow B e size v n xs) (hb : Blk w b T cs) (hTe : T ≠ e) : v.ownBlock ≠ some b := by
 rcases hown.2 with ⟨rfl, _⟩ | ⟨g, cap, cur, rfl, _, hg, _⟩
 ·simp [Value.ownBlock]
 ·intro h
  simp only [Value.ownBlock, Option.some.injEq] at h
  subst h
  rw [show w.heap[g]? = _ from hb] at hg
  simp only [Option.some.injEq, Obj.cells.injEq] at hg
  exact hTe hg.2.1
theorem ownBlocks_ne {w : World} {B : Nat} {e e2 : TypeId} {size size2 : Nat} {v v2 : Value} {n n2 : Nat} {xs xs2 : List Value} (h1 : w.ownsRow B e size v n xs) (h2 : w.ownsRow B e2 size2 v2 n2 xs2) (hne : e ≠ e2) : v.ownBlock = none \/ v.ownBlock ≠ v2.ownBlock := by
 rcases h1.2 with ⟨rfl, _⟩ | ⟨g, cap, cur, rfl, _, hg, _⟩
 ·exact Or.inl rfl
 ·refine Or.inr fun e' => ?_
  exact ownBlock_ne' h2 (b := g) (cs := cur) (T := e) hg hne e'.symm
theorem row_new' {B : Nat} {w w' : World} {t : TypeId} {size : Nat} {v : Value} {n : Nat} {cs : List Value} (h : w.ownsRow B t size v n cs) (hb : Below w.heap.size w w') : w'.ownsRow B t size v n cs := by
 obtain ⟨h1, h2⟩ := h
 refine ⟨h1, ?_⟩
 rcases h2 with h2 | ⟨g, cap, cur, hv, hg, hh, r⟩
 ·exact Or.inl h2
 ·exact Or.inr ⟨g, cap, cur, hv, hg, by rw [hb.block g (Array.getElem?_eq_some_iff.1 hh).1]; exact hh, r⟩
end
section
open Go.RowKit Go.Deep Sv
structure RowAt (w : World) (v : Value) (n : Nat) (cs : List Value) : Prop where
 form : ∃ a cap, v = .slice a n cap /\ (a = none -> cap = 0) /\ n <= cap /\ cap <= 9223372036854775807 /\ (a = none \/ ∃ g, a = some ⟨g, 0, none⟩)
 cells : 0 < n -> ∃ g cap, v = .slice (some ⟨g, 0, none⟩) n cap /\ g < w.heap.size /\ ∀ (j : Nat) u, cs[j]? = some u -> w.cell? ⟨g, j, none⟩ = some u
theorem RowAt.below {B : Nat} {w w' : World} {v : Value} {n : Nat} {cs : List Value} (h : RowAt w v n cs) (hb : Below B w w') (hB : w.heap.size <= B) : RowAt w' v n cs :=
 ⟨h.form, fun hn => by
  obtain ⟨g, cap, e, hg, hc⟩ := h.cells hn
  exact ⟨g, cap, e, Nat.lt_of_lt_of_le hg hb.size, fun j u hu => (hb.cell (p := ⟨g, j, none⟩) (by show g < B; omega)).trans (hc j u hu)⟩⟩
theorem rowAt_own {B : Nat} {w : World} {v : Value} {t : TypeId} {k n : Nat} {cs : List Value} (h : w.ownsRow B t k v n cs) : RowAt w v n cs := by
 have hl := h.1
 rcases h.2 with ⟨e, e0⟩ | ⟨g, cap, cur, e, hB, hg, hn, hm, hsz, htake⟩
 ·exact ⟨⟨none, 0, by rw [e, e0], fun _ => rfl, by omega, by omega, Or.inl rfl⟩, fun hi => by omega⟩
 ·unfold maxLen at hm
  refine ⟨⟨_, _, e, (fun h => by cases h), hn, hm, Or.inr ⟨g, rfl⟩⟩, fun _ => ⟨g, cap, e, (h.lt g (by rw [e]; rfl)).2, fun j u hu => ?_⟩⟩
  have hj := (List.getElem?_eq_some_iff.1 hu).1
  rw [<- htake, List.getElem?_take, if_pos (by omega)] at hu
  rw [<- hu]
  simp [World.cell?, hg]
def encIt (x : It) : List Value := [.string x.name, .int .i64 x.a, .int .i64 x.b, .int .i64 x.c]
def itCells (l : List It) : List Value := l.flatMap encIt
theorem itCells_length (l : List It) : (itCells l).length = l.length * 4 := by
 induction l with
 | nil => rfl
 | cons x l ih => unfold itCells at *; rw [List.flatMap_cons, List.length_append, ih]; simp [encIt]; omega
theorem itCells_append (a b : List It) : itCells (a ++ b) = itCells a ++ itCells b := by simp [itCells]
theorem itCells_at : ∀ (l : List It) (i : Nat), i < l.length -> ∀ (j : Nat) (u : Value), (encIt (l.getD i default))[j]? = some u -> (itCells l)[i * 4 + j]? = some u
 | [], i, h, _, _, _ => by simp at h
 | x :: l, 0, _, j, u, hu => by
  have hj : j < 4 := by have := (List.getElem?_eq_some_iff.1 hu).1; simpa [encIt] using this
  rw [show itCells (x :: l) = encIt x ++ itCells l from rfl, Nat.zero_mul, Nat.zero_add, List.getElem?_append_left (by simpa [encIt] using hj)]
  simpa using hu
 | x :: l, i + 1, h, j, u, hu => by
  have ih := itCells_at l i (by simpa using h) j u (by simpa using hu)
  rw [show itCells (x :: l) = encIt x ++ itCells l from rfl, List.getElem?_append_right (by simp [encIt]; omega)]
  rw [show (i + 1) * 4 + j - (encIt x).length = i * 4 + j by simp [encIt]; omega]
  exact ih
def ItsAt (w : World) (v : Value) (l : List It) : Prop := RowAt w v l.length (itCells l)
theorem ItsAt.at {w : World} {v : Value} {l : List It} (h : ItsAt w v l) (i : Nat) (hi : i < l.length) : ∃ g cap, v = .slice (some ⟨g, 0, none⟩) l.length cap /\ g < w.heap.size /\ w.cell? ⟨g, i * 4, none⟩ = some (.string (l.getD i default).name) /\ w.cell? ⟨g, i * 4 + 1, none⟩ = some (.int .i64 (l.getD i default).a) /\ w.cell? ⟨g, i * 4 + 2, none⟩ = some (.int .i64 (l.getD i default).b) /\ w.cell? ⟨g, i * 4 + 3, none⟩ = some (.int .i64 (l.getD i default).c) := by
 obtain ⟨g, cap, e, hg, hc⟩ := h.cells (by omega)
 exact ⟨g, cap, e, hg, hc _ _ (itCells_at l i hi 0 _ rfl), hc _ _ (itCells_at l i hi 1 _ rfl), hc _ _ (itCells_at l i hi 2 _ rfl), hc _ _ (itCells_at l i hi 3 _ rfl)⟩
def encLn (x : Ln) (v : Value) : List Value := [.int .i64 x.kind, .string x.name, .int .i64 x.a, .int .i64 x.b, .int .i64 x.c, .string x.other, v]
def lnCells : List Ln -> List Value -> List Value
 | x :: l, v :: vs => encLn x v ++ lnCells l vs
 | _, _ => []
theorem lnCells_length : ∀ (l : List Ln) (vs : List Value), vs.length = l.length -> (lnCells l vs).length = l.length * 7
 | [], [], _ => rfl
 | x :: l, v :: vs, h => by
  have := lnCells_length l vs (by simpa using h)
  rw [lnCells, List.length_append, this]; simp [encLn]; omega
 | [], v :: vs, h => by simp at h
 | x :: l, [], h => by simp at h
theorem lnCells_snoc : ∀ (l : List Ln) (vs : List Value) (x : Ln) (v : Value), vs.length = l.length -> lnCells (l ++ [x]) (vs ++ [v]) = lnCells l vs ++ encLn x v
 | [], [], x, v, _ => by simp [lnCells]
 | y :: l, u :: vs, x, v, h => by
  have := lnCells_snoc l vs x v (by simpa using h)
  simp [lnCells, this]
 | [], v :: vs, _, _, h => by simp at h
 | x :: l, [], _, _, h => by simp at h
theorem lnCells_at : ∀ (l : List Ln) (vs : List Value), vs.length = l.length -> ∀ (i : Nat), i < l.length -> ∀ (j : Nat) (u : Value), (encLn (l.getD i default) (vs.getD i undef))[j]? = some u -> (lnCells l vs)[i * 7 + j]? = some u
 | [], [], _, i, h, _, _, _ => by simp at h
 | x :: l, v :: vs, _, 0, _, j, u, hu => by
  have hj : j < 7 := by have := (List.getElem?_eq_some_iff.1 hu).1; simpa [encLn] using this
  rw [lnCells, Nat.zero_mul, Nat.zero_add, List.getElem?_append_left (by simpa [encLn] using hj)]
  simpa using hu
 | x :: l, v :: vs, hl, i + 1, h, j, u, hu => by
  have ih := lnCells_at l vs (by simpa using hl) i (by simpa using h) j u (by simpa using hu)
  rw [lnCells, List.getElem?_append_right (by simp [encLn]; omega)]
  rw [show (i + 1) * 7 + j - (encLn x v).length = i * 7 + j by simp [encLn]; omega]
  exact ih
 | [], v :: vs, h, _, _, _, _, _ => by simp at h
 | x :: l, [], h, _, _, _, _, _ => by simp at h
def RgsAt (w : World) (l : List Ln) (vs : List Value) : Prop := vs.length = l.length /\ ∀ i, i < l.length -> SpAt w (vs.getD i undef) (l.getD i default).rng /\ Rg (l.getD i default).rng
theorem RgsAt.below {B : Nat} {w w' : World} {l : List Ln} {vs : List Value} (h : RgsAt w l vs) (hb : Below B w w') (hB : w.heap.size <= B) : RgsAt w' l vs := ⟨h.1, fun i hi => ⟨(h.2 i hi).1.below hb hB, (h.2 i hi).2⟩⟩
theorem rgsAt_nil (w : World) : RgsAt w [] [] := ⟨rfl, fun i h => by simp at h⟩
theorem RgsAt.snoc {w : World} {l : List Ln} {vs : List Value} (h : RgsAt w l vs) {x : Ln} {v : Value} (hv : SpAt w v x.rng) (hr : Rg x.rng) : RgsAt w (l ++ [x]) (vs ++ [v]) := by
 refine ⟨by simp [h.1], fun i hi => ?_⟩
 by_cases hl : i < l.length
 ·have e1 : (l ++ [x]).getD i default = l.getD i default := by simp [List.getD_eq_getElem?_getD, List.getElem?_append_left hl]
  have e2 : (vs ++ [v]).getD i undef = vs.getD i undef := by simp [List.getD_eq_getElem?_getD, List.getElem?_append_left (show i < vs.length by rw [h.1]; exact hl)]
  rw [e1, e2]; exact h.2 i hl
 ·obtain rfl : i = l.length := by simp at hi; omega
  have e1 : (l ++ [x]).getD l.length default = x := by simp [List.getD_eq_getElem?_getD]
  have e2 : (vs ++ [v]).getD l.length undef = v := by simp [List.getD_eq_getElem?_getD, <- h.1]
  rw [e1, e2]; exact ⟨hv, hr⟩
def LnsAt (w : World) (v : Value) (l : List Ln) : Prop := ∃ vs, RgsAt w l vs /\ RowAt w v l.length (lnCells l vs)
theorem LnsAt.below {B : Nat} {w w' : World} {v : Value} {l : List Ln} (h : LnsAt w v l) (hb : Below B w w') (hB : w.heap.size <= B) : LnsAt w' v l := by
 obtain ⟨vs, h1, h2⟩ := h
 exact ⟨vs, h1.below hb hB, h2.below hb hB⟩
theorem LnsAt.at {w : World} {v : Value} {l : List Ln} (h : LnsAt w v l) (i : Nat) (hi : i < l.length) : ∃ g cap rv, v = .slice (some ⟨g, 0, none⟩) l.length cap /\ g < w.heap.size /\ SpAt w rv (l.getD i default).rng /\ Rg (l.getD i default).rng /\ w.cell? ⟨g, i * 7, none⟩ = some (.int .i64 (l.getD i default).kind) /\ w.cell? ⟨g, i * 7 + 1, none⟩ = some (.string (l.getD i default).name) /\ w.cell? ⟨g, i * 7 + 2, none⟩ = some (.int .i64 (l.getD i default).a) /\ w.cell? ⟨g, i * 7 + 3, none⟩ = some (.int .i64 (l.getD i default).b) /\ w.cell? ⟨g, i * 7 + 4, none⟩ = some (.int .i64 (l.getD i default).c) /\ w.cell? ⟨g, i * 7 + 5, none⟩ = some (.string (l.getD i default).other) /\ w.cell? ⟨g, i * 7 + 6, none⟩ = some rv := by
 obtain ⟨vs, h1, h2⟩ := h
 obtain ⟨g, cap, e, hg, hc⟩ := h2.cells (by omega)
 have H := fun j u hu => hc _ _ (lnCells_at l vs h1.1 i hi j u hu)
 exact ⟨g, cap, vs.getD i undef, e, hg, (h1.2 i hi).1, (h1.2 i hi).2, H 0 _ rfl, H 1 _ rfl, H 2 _ rfl, H 3 _ rfl, H 4 _ rfl, H 5 _ rfl, H 6 _ rfl⟩
end
section
open Go.RowKit Go.Maps
structure Rep {α β : Type} (ok : α -> Prop) (kl : α -> Lit) (el : β -> DataW Unit) (D : DataW Unit) (L : List (α × β)) : Prop where
 tidy : Tidy D
 size : Maps.size D = L.length
 oks : ∀ p ∈ L, ok p.1
 has : ∀ a, ok a -> (Maps.has D (kl a) = true ↔ a ∈ L.map Prod.fst)
 all : ∀ x, Maps.has D x = true -> ∃ p ∈ L, x = kl p.1
 at' : ∀ p ∈ L, ∀ z, D.atKey (kl p.1) z = el p.2
 nodup : (L.map Prod.fst).Nodup
section
variable {α β : Type} {ok : α -> Prop} {kl : α -> Lit} {el : β -> DataW Unit} {D : DataW Unit} {L : List (α × β)}
theorem Rep.empty : Rep ok kl el (.map []) ([] : List (α × β)) :=
 ⟨tidy_empty, rfl, fun p h => (by cases h), fun a _ => (by simp [Maps.has]), fun x h => (by simp [Maps.has] at h), fun p h => (by cases h), List.nodup_nil⟩
theorem Rep.not (h : Rep ok kl el D L) {a : α} (ha : ok a) (hn : a ∉ L.map Prod.fst) : Maps.has D (kl a) = false := by
 cases e : Maps.has D (kl a) with
 | false => rfl
 | true => exact absurd ((h.has a ha).1 e) hn
theorem Rep.put (h : Rep ok kl el D L) (inj : ∀ a b, ok a -> ok b -> kl a = kl b -> a = b) (key : ∀ a, WideAt.IsKeyLit (kl a)) {a : α} (ha : ok a) (hn : a ∉ L.map Prod.fst) (b : β) :
  Rep ok kl el (D.put (kl a) (el b)) (L ++ [(a, b)]) := by
 have hne : ∀ c, ok c -> c ≠ a -> kl c ≠ kl a := fun c hc hca e => hca (inj c a hc ha e)
 refine ⟨h.tidy.put (key a) _, ?_, ?_, ?_, ?_, ?_, ?_⟩
 ·rw [size_put h.tidy, h.not ha hn]; simp [h.size]
 ·intro p hp
  rcases List.mem_append.1 hp with hp | hp
  ·exact h.oks p hp
  ·rw [List.mem_singleton] at hp; subst hp; exact ha
 ·intro c hc
  rw [List.map_append, List.mem_append]
  by_cases e : c = a
  ·subst e
   simp [has_put_same h.tidy.isMap (key c)]
  ·rw [has_put_other (hne c hc e)]
   simp [h.has c hc, e]
 ·intro x hx
  by_cases e : x = kl a
  ·exact ⟨(a, b), by simp, e⟩
  ·rw [has_put_other e] at hx
   obtain ⟨p, hp, hx⟩ := h.all x hx
   exact ⟨p, by simp [hp], hx⟩
 ·intro p hp z
  rcases List.mem_append.1 hp with hp | hp
  ·rw [atKey_put_other (hne p.1 (h.oks p hp) (fun e => hn (e ▸ List.mem_map_of_mem hp)))]
   exact h.at' p hp z
  ·rw [List.mem_singleton] at hp; subst hp
   exact atKey_put_same h.tidy.isMap (key a) _ _
 ·rw [List.map_append, List.nodup_append]
  refine ⟨h.nodup, by simp, fun x hx y hy => ?_⟩
  simp at hy; subst hy
  exact fun e => hn (e ▸ hx)
end
theorem ownsMap_norm {P : Program} {k : TypeId} {R : Value -> Option (DataW Unit × List MemPlace)} {w : World} {b n : Nat} {D : DataW Unit} (h : w.ownsMap P k R b n D) : w.ownsMap P k R b (Maps.size D) D := by
 obtain ⟨es, clock, h1, h2, h3, rfl⟩ := h
 exact ⟨es, clock, h1, h2, by simp [Maps.size, length_sorted], rfl⟩
theorem ownsMap_below {P : Program} {k : TypeId} {R : Value -> Option (DataW Unit × List MemPlace)} {w w' : World} {bm n : Nat} {D : DataW Unit} (h : w.ownsMap P k R bm n D) (hb : Below w.heap.size w w') : w'.ownsMap P k R bm n D := by
 have hlt := h.lt
 obtain ⟨es, clock, h1, h2⟩ := h
 exact ⟨es, clock, (hb.block bm hlt).trans h1, h2⟩
end
section
open Go.RowKit Go.Maps
theorem lawStr : Keyed Tryz.prog 9 := string_keyed Tryz.underlying9
theorem keyStr {s : ByteArray} (h : s.size <= 100000) : keyOf Tryz.prog 9 (.string s) = some (.string s.data.toList) := WideMaps.keyOf_string_mk Tryz.underlying9 (by unfold maxLen; omega)
def sKey (s : ByteArray) : Lit := .string s.data.toList
theorem sKey_key (s : ByteArray) : WideAt.IsKeyLit (sKey s) := trivial
theorem sKey_inj {a b : ByteArray} (h : sKey a = sKey b) : a = b := by
 unfold sKey at h
 injection h with h
 exact ByteArray.ext (Array.toList_inj.1 h)
structure FRep {β : Type} (el : β -> DataW Unit) (D : DataW Unit) (f : ByteArray -> Option β) (n : Nat) : Prop where
 tidy : Tidy D
 size : Maps.size D = n
 has : ∀ a, Maps.has D (sKey a) = (f a).isSome
 at' : ∀ a b, f a = some b -> ∀ z, D.atKey (sKey a) z = el b
section
variable {β : Type} {el : β -> DataW Unit} {D : DataW Unit} {f : ByteArray -> Option β} {n : Nat}
theorem FRep.empty : FRep el (.map []) (fun _ => (none : Option β)) 0 := ⟨tidy_empty, rfl, fun a => by simp [Maps.has], fun a b h => by cases h⟩
theorem FRep.put (h : FRep el D f n) (a : ByteArray) (b : β) : FRep el (D.put (sKey a) (el b)) (fun c => if c = a then some b else f c) (if (f a).isSome then n else n + 1) := by
 refine ⟨h.tidy.put (sKey_key a) _, ?_, fun c => ?_, fun c d hd z => ?_⟩
 ·rw [size_put h.tidy, h.has, h.size]
 ·by_cases e : c = a
  ·subst e
   rw [has_put_same h.tidy.isMap (sKey_key c)]; simp
  ·rw [has_put_other (fun e' => e (sKey_inj e')), h.has, if_neg e]
 ·by_cases e : c = a
  ·subst e
   rw [if_pos rfl] at hd
   cases hd
   exact atKey_put_same h.tidy.isMap (sKey_key c) _ _
  ·rw [if_neg e] at hd
   rw [atKey_put_other (fun e' => e (sKey_inj e'))]
   exact h.at' c d hd z
end
def rowDat (r : Nat × Nat) : DataW Unit := .agg [.lit (.int .i64 (r.1 : Int)), .lit (.int .i64 (r.2 : Int))]
def rowV (r : Nat × Nat) : Value := .agg #[.int .i64 (r.1 : Int), .int .i64 (r.2 : Int)]
def rowOfL : List Value -> Option (DataW Unit × List MemPlace)
 | [.int .i64 a, .int .i64 b] => some (.agg [.lit (.int .i64 a), .lit (.int .i64 b)], [])
 | _ => none
def rowElem : Value -> Option (DataW Unit × List MemPlace)
 | .agg cs => rowOfL cs.toList
 | _ => none
theorem rowElem_mk (r : Nat × Nat) : rowElem (rowV r) = some (rowDat r, []) := rfl
theorem rowElem_inv {v : Value} {r : Nat × Nat} {ps : List MemPlace} (h : rowElem v = some (rowDat r, ps)) : v = rowV r := by
 unfold rowElem at h
 split at h
 ·rename_i cs
  unfold rowOfL at h
  split at h
  ·rename_i a b e
   simp only [Option.some.injEq, Prod.mk.injEq, rowDat, DataW.agg.injEq, List.cons.injEq, DataW.lit.injEq, Lit.int.injEq, true_and, and_true] at h
   obtain ⟨⟨h1, h2⟩, -⟩ := h
   rw [show cs = #[.int .i64 a, .int .i64 b] from Array.toList_inj.1 e, h1, h2]; rfl
  ·cases h
 ·cases h
theorem zeroRow (w : World) : (zeroValue 161).run Tryz.prog w = .ok (.agg #[.int .i64 0, .int .i64 0]) w := by kernel_rfl
def RowsAt (w : World) (bm : Nat) (f : ByteArray -> Option (Nat × Nat)) (N : Nat) : Prop := ∃ D n, w.ownsMap Tryz.prog 9 rowElem bm n D /\ FRep rowDat D f n /\ n <= N
theorem RowsAt.below {B : Nat} {w w' : World} {bm N : Nat} {f : ByteArray -> Option (Nat × Nat)} (h : RowsAt w bm f N) (hb : Below B w w') (hB : w.heap.size <= B) : RowsAt w' bm f N := by
 obtain ⟨D, n, h1, h2, h3⟩ := h
 exact ⟨D, n, ownsMap_below h1 (hb.mono hB), h2, h3⟩
theorem RowsAt.lt {w : World} {bm N : Nat} {f : ByteArray -> Option (Nat × Nat)} (h : RowsAt w bm f N) : bm < w.heap.size := by obtain ⟨D, n, h1, _⟩ := h; exact h1.lt
theorem RowsAt.block {w w' : World} {bm N : Nat} {f : ByteArray -> Option (Nat × Nat)} (h : RowsAt w bm f N) (hb : w'.heap[bm]? = w.heap[bm]?) : RowsAt w' bm f N := by
 obtain ⟨D, n, ⟨es, clock, h1, h2⟩, hR⟩ := h
 exact ⟨D, n, ⟨es, clock, hb.trans h1, h2⟩, hR⟩
theorem RowsAt.made (w : World) : RowsAt (w.alloc (.map #[] 0)) w.heap.size (fun _ => none) 0 := ⟨.map [], 0, World.ownsMap_made w _ _ _, FRep.empty, Nat.le_refl _⟩
theorem RowsAt.ne {w : World} {bm N b : Nat} {f : ByteArray -> Option (Nat × Nat)} {t : TypeId} {cs : Array Value} (h : RowsAt w bm f N) (hb : Blk w b t cs) : bm ≠ b := by
 rintro rfl
 obtain ⟨D, n, ⟨es, clock, h1, _⟩, _⟩ := h
 have := h1.symm.trans hb
 cases this
theorem RowsAt.look {w : World} {bm N : Nat} {f : ByteArray -> Option (Nat × Nat)} (h : RowsAt w bm f N) {s : ByteArray} (hs : s.size <= 100000) :
  (Instr.lookup 149 (.map (some bm)) (.string s) true).run Tryz.prog w = .ok (.tuple #[rowV ((f s).getD (0, 0)), .bool (f s).isSome]) w /\ (Instr.lookup 149 (.map (some bm)) (.string s) false).run Tryz.prog w = .ok (rowV ((f s).getD (0, 0))) w := by
 obtain ⟨D, n, hD, hR, -⟩ := h
 have key : ∀ v ps, rowElem v = some (D.atKey (.string s.data.toList) (rowDat (0, 0)), ps) -> v = rowV ((f s).getD (0, 0)) := fun v ps hv => by
  cases hf : f s with
  | none =>
   have hh := hR.has s
   rw [hf] at hh
   rw [atKey_of_not_has (show Maps.has D (.string s.data.toList) = false from hh)] at hv
   exact rowElem_inv hv
  | some r =>
   rw [show D.atKey (.string s.data.toList) (rowDat (0, 0)) = rowDat r from hR.at' s r hf _] at hv
   exact rowElem_inv hv
 constructor
 ·obtain ⟨v, ps, hrun, hv⟩ := hD.look_ok lawStr Tryz.underlying149 (zeroRow w) (rowElem_mk (0, 0)) (keyStr hs)
  rw [key v ps hv, show Maps.has D (.string s.data.toList) = (f s).isSome from hR.has s] at hrun
  exact hrun
 ·obtain ⟨v, ps, hrun, hv⟩ := hD.lookup lawStr Tryz.underlying149 (zeroRow w) (rowElem_mk (0, 0)) (keyStr hs)
  rw [key v ps hv] at hrun
  exact hrun
theorem RowsAt.put {w : World} {bm N : Nat} {f : ByteArray -> Option (Nat × Nat)} (h : RowsAt w bm f N) {s : ByteArray} (hs : s.size <= 100000) (r : Nat × Nat) (hN : N < 1000000) :
  ∃ w', (Instr.mapUpdate 149 (.map (some bm)) (.string s) (rowV r)).run Tryz.prog w = .ok () w' /\ RowsAt w' bm (fun c => if c = s then some r else f c) (N + 1) /\ w.grownBy w' (some bm) := by
 obtain ⟨D, n, hD, hR, hn⟩ := h
 obtain ⟨w', hrun, g1, k1⟩ := hD.update lawStr Tryz.underlying149 (by unfold maxLen; omega) (keyStr hs) (rowElem_mk r)
 have hR1 := hR.put s r
 exact ⟨w', hrun, ⟨_, _, hR1.size ▸ ownsMap_norm g1, hR1, by split <;> omega⟩, k1⟩
theorem namesN_snoc (l : List It) (x : It) : namesN (l ++ [x]) = if x.name ∈ l.map It.name then namesN l else namesN l + 1 := by
 unfold namesN
 rw [List.map_append, List.eraseDups_append, List.length_append, List.map_cons, List.map_nil]
 by_cases h : x.name ∈ l.map It.name
 ·rw [if_pos h, show [x.name].removeAll (l.map It.name) = [] by simp only [List.removeAll, List.filter_cons, List.filter_nil, List.elem_eq_mem, h, decide_true, Bool.not_true, Bool.false_eq_true, if_false]]
  rfl
 ·rw [if_neg h, show [x.name].removeAll (l.map It.name) = [x.name] by simp only [List.removeAll, List.filter_cons, List.filter_nil, List.elem_eq_mem, h, decide_false, Bool.not_false, if_true]]
  rfl
theorem namesN_le (l : List It) : namesN l <= l.length := by
 unfold namesN
 have : ∀ m : List ByteArray, m.eraseDups.length <= m.length := by
  intro m
  induction h : m.length using Nat.strongRecOn generalizing m with
  | _ n ih =>
   cases m with
   | nil => simp
   | cons a m =>
    rw [List.eraseDups_cons]
    have h1 := List.length_filter_le (fun b => !(b == a)) m
    have := ih (m.filter fun b => !(b == a)).length (by rw [<- h]; simp only [List.length_cons]; omega) _ rfl
    simp only [List.length_cons] at h ⊢
    omega
 simpa using this (l.map It.name)
def namesF (l : List It) (c : ByteArray) : Option Unit := if c ∈ l.map It.name then some () else none
def NamesAt (w : World) (bm : Nat) (l : List It) : Prop := ∃ D, w.ownsMap Tryz.prog 9 unitElem bm (namesN l) D /\ FRep (fun _ : Unit => .agg []) D (namesF l) (namesN l)
theorem NamesAt.made (w : World) : NamesAt (w.alloc (.map #[] 0)) w.heap.size [] := ⟨.map [], World.ownsMap_made w _ _ _, FRep.empty⟩
theorem NamesAt.below {B : Nat} {w w' : World} {bm : Nat} {l : List It} (h : NamesAt w bm l) (hb : Below B w w') (hB : w.heap.size <= B) : NamesAt w' bm l := by
 obtain ⟨D, h1, h2⟩ := h
 exact ⟨D, ownsMap_below h1 (hb.mono hB), h2⟩
theorem NamesAt.lt {w : World} {bm : Nat} {l : List It} (h : NamesAt w bm l) : bm < w.heap.size := by obtain ⟨D, h1, _⟩ := h; exact h1.lt
theorem NamesAt.block {w w' : World} {bm : Nat} {l : List It} (h : NamesAt w bm l) (hb : w'.heap[bm]? = w.heap[bm]?) : NamesAt w' bm l := by
 obtain ⟨D, ⟨es, clock, h1, h2⟩, hR⟩ := h
 exact ⟨D, ⟨es, clock, hb.trans h1, h2⟩, hR⟩
theorem NamesAt.put {w : World} {bm : Nat} {l : List It} (h : NamesAt w bm l) (hl : l.length < 1000000) {x : It} (hs : x.name.size <= 100000) :
  ∃ w', (Instr.mapUpdate 195 (.map (some bm)) (.string x.name) (.agg #[])).run Tryz.prog w = .ok () w' /\ NamesAt w' bm (l ++ [x]) /\ w.grownBy w' (some bm) := by
 obtain ⟨D, hD, hR⟩ := h
 have hle := namesN_le l
 obtain ⟨w', hrun, g1, k1⟩ := hD.update lawStr Tryz.underlying195 (by unfold maxLen; omega) (keyStr hs) unitElem_mk
 have hR1 := hR.put x.name ()
 have e1 : (fun c => if c = x.name then some () else namesF l c) = namesF (l ++ [x]) := by
  funext c
  unfold namesF
  by_cases h : c = x.name
  ·simp [h]
  ·simp [h]
 have e2 : (if (namesF l x.name).isSome then namesN l else namesN l + 1) = namesN (l ++ [x]) := by
  rw [namesN_snoc]
  unfold namesF
  by_cases h : x.name ∈ l.map It.name
  ·rw [if_pos h, if_pos h]; rfl
  ·rw [if_neg h, if_neg h]; rfl
 rw [e1, e2] at hR1
 exact ⟨w', hrun, ⟨_, hR1.size ▸ ownsMap_norm g1, hR1⟩, k1⟩
theorem NamesAt.len {w : World} {bm : Nat} {l : List It} (h : NamesAt w bm l) (ty : TypeId) : (Builtin.len_ #[195] ty #[.map (some bm)]).run Tryz.prog w = .ok (.int .i64 (namesN l : Int)) w := by
 obtain ⟨D, hD, hR⟩ := h
 rw [hD.len Tryz.underlying195 ty, hR.size]
end
end Go.Proofs.YtmhophccdfmngaaGreatDoor
