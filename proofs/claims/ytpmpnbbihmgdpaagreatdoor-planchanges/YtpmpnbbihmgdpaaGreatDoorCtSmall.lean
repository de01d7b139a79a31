/- pair, kind. -/
import Derived.Test.YtpmpnbbihmgdpaaGreatDoorErErrs
import Derived.Deep.RegionHeld3
import Derived.Lib.Hide
import Derived.Deep.Slices
import Derived.Test.YtpmpnbbihmgdpaaGreatDoorSvCuts
import Derived.Laws.NewBlocks
import Derived.Maps.AppendAt
import Derived.OneCell
import Derived.OwnWalk
import Derived.Lib.Builder
import Derived.Deep.AppendLies
import Derived.Laws.OwnMore
import Derived.Deep.MidRow
import Derived.WalkSmall
import Derived.Deep.RegionLaw
import Derived.Test.YtpmpnbbihmgdpaaGreatDoorCtPlain
import Derived.Test.YtpmpnbbihmgdpaaGreatDoorSvMem
set_option maxHeartbeats 1000000
set_option maxRecDepth 100000
namespace Go.Proofs.YtpmpnbbihmgdpaaGreatDoor
section
open Go.RowKit
theorem below_new (w : World) (o : Obj) : Below w.heap.size w (w.alloc o) := (Below.refl _ _).alloc (Nat.le_refl _) _
theorem addr_block (a : Addr) (i : Nat) : (a.add i).block = a.block := by unfold Addr.add; split <;> rfl
def IntsIn (w : World) (a : Option Addr) (xs : List Int) : Prop :=
 ∀ i, i < xs.length -> ∃ ad : Addr, a = some ad /\ ad.block < w.heap.size /\ w.cell? (ad.add i) = some (.int .i64 (xs.getD i 0))
theorem IntsIn.below {w w' : World} {a : Option Addr} {xs : List Int} (h : IntsIn w a xs) (hb : Below w.heap.size w w') : IntsIn w' a xs := by
 intro i hi
 obtain ⟨ad, ha, hl, hc⟩ := h i hi
 exact ⟨ad, ha, Nat.lt_of_lt_of_le hl hb.size, (hb.cell (by rw [addr_block]; exact hl)).trans hc⟩
theorem IntsIn.nil (w : World) (a : Option Addr) : IntsIn w a [] := fun i hi => by simp at hi
def ClsIn (w : World) (a : Option Addr) (l : List (List Int)) : Prop :=
 ∀ i, i < l.length -> ∃ (ad : Addr) (a' : Option Addr) (cap : Nat), a = some ad /\ ad.block < w.heap.size /\ w.cell? (ad.add i) = some (.slice a' (l.getD i []).length cap) /\ (l.getD i []).length <= cap /\ cap <= 9223372036854775807 /\ IntsIn w a' (l.getD i [])
theorem ClsIn.below {w w' : World} {a : Option Addr} {l : List (List Int)} (h : ClsIn w a l) (hb : Below w.heap.size w w') : ClsIn w' a l := by
 intro i hi
 obtain ⟨ad, a', cap, ha, hl, hc, h1, h2, h3⟩ := h i hi
 exact ⟨ad, a', cap, ha, Nat.lt_of_lt_of_le hl hb.size, (hb.cell (by rw [addr_block]; exact hl)).trans hc, h1, h2, h3.below hb⟩
theorem getD_mem {α : Type} {l : List α} {i : Nat} {d : α} (h : i < l.length) : l.getD i d ∈ l := by
 rw [List.getD_eq_getElem?_getD, List.getElem?_eq_getElem h]; exact List.getElem_mem h
def idxF {α : Type} (p : α -> Bool) (xs : List α) : Int := match xs.findIdx? p with | some i => (i : Int) | none => -1
theorem idxF_hit {α : Type} {p : α -> Bool} {xs : List α} {k : Nat} {d : α} (h0 : ∀ j, j < k -> p (xs.getD j d) = false) (hk : k < xs.length) (h1 : p (xs.getD k d) = true) : idxF p xs = (k : Int) := by
 have : xs.findIdx? p = some k := by
  rw [List.findIdx?_eq_some_iff_getElem]
  refine ⟨hk, ?_, fun j hj => ?_⟩
  ·rw [List.getD_eq_getElem?_getD, List.getElem?_eq_getElem hk] at h1; exact h1
  ·have := h0 j hj
   rw [List.getD_eq_getElem?_getD, List.getElem?_eq_getElem (by omega)] at this
   simpa using this
 simp [idxF, this]
theorem idxF_none {α : Type} {p : α -> Bool} {xs : List α} {d : α} (h0 : ∀ j, j < xs.length -> p (xs.getD j d) = false) : idxF p xs = -1 := by
 have : xs.findIdx? p = none := by
  rw [List.findIdx?_eq_none_iff]
  intro x hx
  obtain ⟨j, hj, rfl⟩ := List.getElem_of_mem hx
  have := h0 j hj
  rw [List.getD_eq_getElem?_getD, List.getElem?_eq_getElem hj] at this
  simpa using this
 simp [idxF, this]
end
section
open Go.RowKit Go.Deep
theorem add_plain (b o i : Nat) : (⟨b, o, none⟩ : Addr).add i = ⟨b, o + i, none⟩ := by
 unfold Addr.add
 by_cases h : i = 0
 ·subst h; rfl
 ·rw [if_neg h]
def icells (l : List Int) : List Value := l.map (Value.int .i64)
theorem icells_length (l : List Int) : (icells l).length = l.length := by simp [icells]
theorem icells_at (l : List Int) (i : Nat) (h : i < l.length) : (icells l)[i]? = some (.int .i64 (l.getD i 0)) := by simp [icells, List.getD_eq_getElem?_getD, h]
theorem icells_snoc (l : List Int) (x : Int) : icells (l ++ [x]) = icells l ++ [.int .i64 x] := by simp [icells]
theorem infoInt : (Tryz.prog.info? 3).map (fun i => (i.zero, i.size, i.bytes)) = some (some (.int .i64 0), 1, 8) := by kernel_rfl
theorem row_form {B n : Nat} {w : World} {v : Value} {t : TypeId} {cs : List Value} (h : w.ownsRow B t 1 v n cs) : ∃ a c, v = .slice a n c /\ n <= c /\ c <= 9223372036854775807 := by
 rcases h.2 with ⟨e, e0⟩ | ⟨g, cap, cur, e, -, -, h1, h2, -⟩
 ·exact ⟨none, 0, by rw [e, e0], by omega, by omega⟩
 ·unfold maxLen at h2; exact ⟨_, _, e, h1, h2⟩
theorem ints_row {B : Nat} {w : World} {a : Option Addr} {c : Nat} {l : List Int} (h : w.ownsRow B 3 1 (.slice a l.length c) l.length (icells l)) : IntsIn w a l := by
 intro i hi
 rcases h.2 with ⟨e, e0⟩ | ⟨g, cap, cur, e, hB, hg, -⟩
 ·omega
 ·injection e with e1 e2 e3
  subst e1 e3
  refine ⟨_, rfl, (Array.getElem?_eq_some_iff.1 hg).1, ?_⟩
  have := h.cellAt i (by omega)
  rw [add_plain, Nat.zero_add, this, icells_at l i hi]
theorem cell_lit (w : World) (x : Int) (t : TypeId) : ∀ (j : Nat) (u : Value), [Value.int .i64 x][j]? = some u -> (w.alloc (.cells #[.int .i64 x] t)).cell? ((⟨w.heap.size, 0, none⟩ : Addr).add j) = some u := by
 intro j u hu
 cases j with
 | zero => simp at hu; subst hu; rw [add_plain]; simp
 | succ j => simp at hu
theorem one_lit (x : Int) : ∀ u ∈ [Value.int .i64 x], u.oneCell' = true := by
 intro u hu
 rw [List.mem_singleton] at hu
 subst hu
 rfl
theorem infoCls : (Tryz.prog.info? 143).map (fun i => (i.zero, i.size, i.bytes)) = some (some (.slice none 0 0), 1, 24) := by kernel_rfl
theorem drop_cons {α : Type} {l : List α} {k : Nat} {d : α} (h : k < l.length) : l.drop k = l.getD k d :: l.drop (k + 1) := by
 rw [List.drop_eq_getElem_cons h, List.getD_eq_getElem?_getD, List.getElem?_eq_getElem h]; rfl
theorem ownsRow_base {w : World} {base base' : Nat} {e : TypeId} {size : Nat} {v : Value} {n : Nat} {xs : List Value} (h : w.ownsRow base e size v n xs) (hb : base' <= base) : w.ownsRow base' e size v n xs := by
 obtain ⟨h1, h2⟩ := h
 refine ⟨h1, ?_⟩
 rcases h2 with h2 | ⟨g, cap, cur, hv, hg, r⟩
 ·exact Or.inl h2
 ·exact Or.inr ⟨g, cap, cur, hv, Nat.le_trans hb hg, r⟩
end
section
open Go.RowKit Go.Deep
structure Kp (B : Nat) (w w' : World) : Prop where
 size : w.heap.size <= w'.heap.size
 block : ∀ k, k < w.heap.size -> (k < B \/ ∃ cur fr, w.heap[k]? = some (.cells cur 3 fr)) -> w'.heap[k]? = w.heap[k]?
section
variable {B : Nat} {w w' w'' : World}
theorem Kp.refl (B : Nat) (w : World) : Kp B w w := ⟨Nat.le_refl _, fun _ _ _ => rfl⟩
theorem Kp.trans (h : Kp B w w') (h2 : Kp B w' w'') : Kp B w w'' := ⟨Nat.le_trans h.size h2.size, fun k hk hc => by
 have e := h.block k hk hc
 rw [<- e]
 refine h2.block k (Nat.lt_of_lt_of_le hk h.size) ?_
 rw [e]; exact hc⟩
theorem Kp.zero (h : Kp B w w') : Kp 0 w w' := ⟨h.size, fun k hk hc => h.block k hk (hc.imp (fun h => by omega) id)⟩
theorem Kp.new (hb : Below w.heap.size w w') : Kp B w w' := ⟨hb.size, fun k hk _ => hb.block k hk⟩
theorem Kp.set {b i : Nat} {t : TypeId} {cs : Array Value} {v : Value} (hB : B <= b) (h : Blk w b t cs) (ht : t ≠ 3) : Kp B w (w.setCell ⟨b, i, none⟩ v) := by
 refine ⟨by simp [World.setCell], fun k hk hc => Below.heap_setCell _ _ _ k (fun e => ?_)⟩
 have e' : k = b := e
 subst e'
 rcases hc with hc | ⟨cur, fr, hc⟩
 ·omega
 ·rw [show w.heap[k]? = _ from h] at hc
  simp only [Option.some.injEq, Obj.cells.injEq] at hc
  exact ht hc.2.1
theorem Kp.grown {e : TypeId} {size n : Nat} {v : Value} {xs : List Value} (h : w.ownsRow B e size v n xs) (hg : w.grownBy w' v.ownBlock) (he : e ≠ 3) : Kp B w w' := by
 refine ⟨hg.size, fun k hk hc => hg.block k hk (fun e' => ?_)⟩
 obtain ⟨h1, h2⟩ := h.lt k e'.symm
 rcases hc with hc | ⟨cur, fr, hc⟩
 ·omega
 ·rcases h.2 with ⟨hv, _⟩ | ⟨g, cap, cur', hv, _, hg', _⟩
  ·rw [hv] at e'; cases e'
  ·rw [hv] at e'
   simp only [Value.ownBlock, Option.some.injEq] at e'
   subst e'
   rw [hg'] at hc
   simp only [Option.some.injEq, Obj.cells.injEq] at hc
   exact he hc.2.1
def IntsK (B : Nat) (w : World) (a : Option Addr) (xs : List Int) : Prop :=
 ∀ i, i < xs.length -> ∃ ad : Addr, a = some ad /\ ad.block < w.heap.size /\ (ad.block < B \/ ∃ cur fr, w.heap[ad.block]? = some (.cells cur 3 fr)) /\ w.cell? (ad.add i) = some (.int .i64 (xs.getD i 0))
theorem IntsK.ints {a : Option Addr} {xs : List Int} (h : IntsK B w a xs) : IntsIn w a xs := fun i hi => by
 obtain ⟨ad, h1, h2, _, h4⟩ := h i hi
 exact ⟨ad, h1, h2, h4⟩
theorem IntsK.kp {a : Option Addr} {xs : List Int} (h : IntsK B w a xs) (hk : Kp B w w') : IntsK B w' a xs := fun i hi => by
 obtain ⟨ad, h1, h2, h3, h4⟩ := h i hi
 have e := hk.block _ h2 h3
 refine ⟨ad, h1, Nat.lt_of_lt_of_le h2 hk.size, by rw [e]; exact h3, ?_⟩
 rw [World.cell?_of_block (w := w) (by rw [addr_block]; exact e)]; exact h4
theorem IntsK.more {a : Option Addr} {xs : List Int} (h : IntsK 0 w a xs) : IntsK B w a xs := fun i hi => by
 obtain ⟨ad, h1, h2, h3, h4⟩ := h i hi
 exact ⟨ad, h1, h2, h3.imp (fun h => by omega) id, h4⟩
theorem IntsK.of {a : Option Addr} {xs : List Int} (h : IntsIn w a xs) (hb : Below w.heap.size w w') : IntsK w.heap.size w' a xs := fun i hi => by
 obtain ⟨ad, h1, h2, h3⟩ := h.below hb i hi
 obtain ⟨ad', h4, h5, _⟩ := h i hi
 obtain rfl := Option.some.inj (h1.symm.trans h4)
 exact ⟨ad, h1, h2, Or.inl h5, h3⟩
def ClsK (B : Nat) (w : World) (cs : List Value) (l : List (List Int)) : Prop :=
 cs.length = l.length /\ ∀ i, i < l.length -> ∃ (a : Option Addr) (cap : Nat), cs[i]? = some (.slice a (l.getD i []).length cap) /\ (l.getD i []).length <= cap /\ cap <= 9223372036854775807 /\ IntsK B w a (l.getD i [])
theorem ClsK.kp {cs : List Value} {l : List (List Int)} (h : ClsK B w cs l) (hk : Kp B w w') : ClsK B w' cs l := ⟨h.1, fun i hi => by
 obtain ⟨a, cap, h1, h2, h3, h4⟩ := h.2 i hi
 exact ⟨a, cap, h1, h2, h3, h4.kp hk⟩⟩
theorem ClsK.nil : ClsK B w [] [] := ⟨rfl, fun i hi => by simp at hi⟩
theorem ClsK.snoc {cs : List Value} {l : List (List Int)} (h : ClsK B w cs l) {a : Option Addr} {cap : Nat} {c : List Int} (h1 : c.length <= cap) (h2 : cap <= 9223372036854775807) (h3 : IntsK B w a c) : ClsK B w (cs ++ [.slice a c.length cap]) (l ++ [c]) := by
 refine ⟨by simp [h.1], fun i hi => ?_⟩
 by_cases hl : i < l.length
 ·have e : (l ++ [c]).getD i [] = l.getD i [] := by simp [List.getD_eq_getElem?_getD, List.getElem?_append_left hl]
  rw [e, List.getElem?_append_left (by rw [h.1]; exact hl)]
  exact h.2 i hl
 ·have hi' : i = l.length := by simp at hi; omega
  subst hi'
  have e : (l ++ [c]).getD l.length [] = c := by simp [List.getD_eq_getElem?_getD]
  rw [e, List.getElem?_append_right (by rw [h.1]; exact Nat.le_refl _), h.1]
  exact ⟨a, cap, by simp, h1, h2, h3⟩
theorem ClsK.one {cs : List Value} {l : List (List Int)} (h : ClsK B w cs l) : ∀ u ∈ cs, u.oneCell' = true := fun u hu => by
 obtain ⟨i, hi, rfl⟩ := List.getElem_of_mem hu
 obtain ⟨a, cap, h1, _⟩ := h.2 i (by rw [<- h.1]; exact hi)
 rw [List.getElem?_eq_getElem hi] at h1
 rw [Option.some.inj h1]
 rfl
end
theorem ownBlock_ne' {w : World} {B : Nat} {e T : TypeId} {size : Nat} {v : Value} {n : Nat} {xs : List Value} {b : Nat} {cs : Array Value} (hown : w.ownsRow B e size v n xs) (hb : Blk w b T cs) (hTe : T ≠ e) : v.ownBlock ≠ some b := by
 rcases hown.2 with ⟨rfl, _⟩ | ⟨g, cap, cur, rfl, _, hg, _⟩
 ·simp [Value.ownBlock]
 ·intro h
  simp only [Value.ownBlock, Option.some.injEq] at h
  subst h
  rw [show w.heap[g]? = _ from hb] at hg
  simp only [Option.some.injEq, Obj.cells.injEq] at hg
  exact hTe hg.2.1
theorem ownBlocks_ne {w : World} {B : Nat} {e e2 : TypeId} {size size2 : Nat} {v v2 : Value} {n n2 : Nat} {xs xs2 : List Value} (h1 : w.ownsRow B e size v n xs) (h2 : w.ownsRow B e2 size2 v2 n2 xs2) (hne : e ≠ e2) : v.ownBlock = none \/ v.ownBlock ≠ v2.ownBlock := by
 rcases h1.2 with ⟨rfl, _⟩ | ⟨g, cap, cur, rfl, _, hg, _⟩
 ·exact Or.inl rfl
 ·refine Or.inr fun e' => ?_
  exact ownBlock_ne' h2 (b := g) (cs := cur) (T := e) hg hne e'.symm
theorem row_new' {B : Nat} {w w' : World} {t : TypeId} {size : Nat} {v : Value} {n : Nat} {cs : List Value} (h : w.ownsRow B t size v n cs) (hb : Below w.heap.size w w') : w'.ownsRow B t size v n cs := by
 obtain ⟨h1, h2⟩ := h
 refine ⟨h1, ?_⟩
 rcases h2 with h2 | ⟨g, cap, cur, hv, hg, hh, r⟩
 ·exact Or.inl h2
 ·exact Or.inr ⟨g, cap, cur, hv, hg, by rw [hb.block g (Array.getElem?_eq_some_iff.1 hh).1]; exact hh, r⟩
end
section
open Go.RowKit Go.Deep Sv
structure RowAt (w : World) (v : Value) (n : Nat) (cs : List Value) : Prop where
 form : ∃ a cap, v = .slice a n cap /\ (a = none -> cap = 0) /\ n <= cap /\ cap <= 9223372036854775807 /\ (a = none \/ ∃ g, a = some ⟨g, 0, none⟩)
 cells : 0 < n -> ∃ g cap, v = .slice (some ⟨g, 0, none⟩) n cap /\ g < w.heap.size /\ ∀ (j : Nat) u, cs[j]? = some u -> w.cell? ⟨g, j, none⟩ = some u
theorem RowAt.below {B : Nat} {w w' : World} {v : Value} {n : Nat} {cs : List Value} (h : RowAt w v n cs) (hb : Below B w w') (hB : w.heap.size <= B) : RowAt w' v n cs :=
 ⟨h.form, fun hn => by
  obtain ⟨g, cap, e, hg, hc⟩ := h.cells hn
  exact ⟨g, cap, e, Nat.lt_of_lt_of_le hg hb.size, fun j u hu => (hb.cell (p := ⟨g, j, none⟩) (by show g < B; omega)).trans (hc j u hu)⟩⟩
theorem rowAt_own {B : Nat} {w : World} {v : Value} {t : TypeId} {k n : Nat} {cs : List Value} (h : w.ownsRow B t k v n cs) : RowAt w v n cs := by
 have hl := h.1
 rcases h.2 with ⟨e, e0⟩ | ⟨g, cap, cur, e, hB, hg, hn, hm, hsz, htake⟩
 ·exact ⟨⟨none, 0, by rw [e, e0], fun _ => rfl, by omega, by omega, Or.inl rfl⟩, fun hi => by omega⟩
 ·unfold maxLen at hm
  refine ⟨⟨_, _, e, (fun h => by cases h), hn, hm, Or.inr ⟨g, rfl⟩⟩, fun _ => ⟨g, cap, e, (h.lt g (by rw [e]; rfl)).2, fun j u hu => ?_⟩⟩
  have hj := (List.getElem?_eq_some_iff.1 hu).1
  rw [<- htake, List.getElem?_take, if_pos (by omega)] at hu
  rw [<- hu]
  simp [World.cell?, hg]
def encIt (x : It) : List Value := [.string x.name, .int .i64 x.a, .int .i64 x.b, .int .i64 x.c]
def itCells (l : List It) : List Value := l.flatMap encIt
theorem itCells_length (l : List It) : (itCells l).length = l.length * 4 := by
 induction l with
 | nil => rfl
 | cons x l ih => unfold itCells at *; rw [List.flatMap_cons, List.length_append, ih]; simp [encIt]; omega
theorem itCells_append (a b : List It) : itCells (a ++ b) = itCells a ++ itCells b := by simp [itCells]
theorem itCells_at : ∀ (l : List It) (i : Nat), i < l.length -> ∀ (j : Nat) (u : Value), (encIt (l.getD i default))[j]? = some u -> (itCells l)[i * 4 + j]? = some u
 | [], i, h, _, _, _ => by simp at h
 | x :: l, 0, _, j, u, hu => by
  have hj : j < 4 := by have := (List.getElem?_eq_some_iff.1 hu).1; simpa [encIt] using this
  rw [show itCells (x :: l) = encIt x ++ itCells l from rfl, Nat.zero_mul, Nat.zero_add, List.getElem?_append_left (by simpa [encIt] using hj)]
  simpa using hu
 | x :: l, i + 1, h, j, u, hu => by
  have ih := itCells_at l i (by simpa using h) j u (by simpa using hu)
  rw [show itCells (x :: l) = encIt x ++ itCells l from rfl, List.getElem?_append_right (by simp [encIt]; omega)]
  rw [show (i + 1) * 4 + j - (encIt x).length = i * 4 + j by simp [encIt]; omega]
  exact ih
def ItsAt (w : World) (v : Value) (l : List It) : Prop := RowAt w v l.length (itCells l)
theorem ItsAt.at {w : World} {v : Value} {l : List It} (h : ItsAt w v l) (i : Nat) (hi : i < l.length) : ∃ g cap, v = .slice (some ⟨g, 0, none⟩) l.length cap /\ g < w.heap.size /\ w.cell? ⟨g, i * 4, none⟩ = some (.string (l.getD i default).name) /\ w.cell? ⟨g, i * 4 + 1, none⟩ = some (.int .i64 (l.getD i default).a) /\ w.cell? ⟨g, i * 4 + 2, none⟩ = some (.int .i64 (l.getD i default).b) /\ w.cell? ⟨g, i * 4 + 3, none⟩ = some (.int .i64 (l.getD i default).c) := by
 obtain ⟨g, cap, e, hg, hc⟩ := h.cells (by omega)
 exact ⟨g, cap, e, hg, hc _ _ (itCells_at l i hi 0 _ rfl), hc _ _ (itCells_at l i hi 1 _ rfl), hc _ _ (itCells_at l i hi 2 _ rfl), hc _ _ (itCells_at l i hi 3 _ rfl)⟩
def encLn (x : Ln) (v : Value) : List Value := [.int .i64 x.kind, .string x.name, .int .i64 x.a, .int .i64 x.b, .int .i64 x.c, .string x.other, v]
def lnCells : List Ln -> List Value -> List Value
 | x :: l, v :: vs => encLn x v ++ lnCells l vs
 | _, _ => []
theorem lnCells_length : ∀ (l : List Ln) (vs : List Value), vs.length = l.length -> (lnCells l vs).length = l.length * 7
 | [], [], _ => rfl
 | x :: l, v :: vs, h => by
  have := lnCells_length l vs (by simpa using h)
  rw [lnCells, List.length_append, this]; simp [encLn]; omega
 | [], v :: vs, h => by simp at h
 | x :: l, [], h => by simp at h
theorem lnCells_snoc : ∀ (l : List Ln) (vs : List Value) (x : Ln) (v : Value), vs.length = l.length -> lnCells (l ++ [x]) (vs ++ [v]) = lnCells l vs ++ encLn x v
 | [], [], x, v, _ => by simp [lnCells]
 | y :: l, u :: vs, x, v, h => by
  have := lnCells_snoc l vs x v (by simpa using h)
  simp [lnCells, this]
 | [], v :: vs, _, _, h => by simp at h
 | x :: l, [], _, _, h => by simp at h
theorem lnCells_at : ∀ (l : List Ln) (vs : List Value), vs.length = l.length -> ∀ (i : Nat), i < l.length -> ∀ (j : Nat) (u : Value), (encLn (l.getD i default) (vs.getD i undef))[j]? = some u -> (lnCells l vs)[i * 7 + j]? = some u
 | [], [], _, i, h, _, _, _ => by simp at h
 | x :: l, v :: vs, _, 0, _, j, u, hu => by
  have hj : j < 7 := by have := (List.getElem?_eq_some_iff.1 hu).1; simpa [encLn] using this
  rw [lnCells, Nat.zero_mul, Nat.zero_add, List.getElem?_append_left (by simpa [encLn] using hj)]
  simpa using hu
 | x :: l, v :: vs, hl, i + 1, h, j, u, hu => by
  have ih := lnCells_at l vs (by simpa using hl) i (by simpa using h) j u (by simpa using hu)
  rw [lnCells, List.getElem?_append_right (by simp [encLn]; omega)]
  rw [show (i + 1) * 7 + j - (encLn x v).length = i * 7 + j by simp [encLn]; omega]
  exact ih
 | [], v :: vs, h, _, _, _, _, _ => by simp at h
 | x :: l, [], h, _, _, _, _, _ => by simp at h
def RgsAt (w : World) (l : List Ln) (vs : List Value) : Prop := vs.length = l.length /\ ∀ i, i < l.length -> SpAt w (vs.getD i undef) (l.getD i default).rng /\ Rg (l.getD i default).rng
theorem RgsAt.below {B : Nat} {w w' : World} {l : List Ln} {vs : List Value} (h : RgsAt w l vs) (hb : Below B w w') (hB : w.heap.size <= B) : RgsAt w' l vs := ⟨h.1, fun i hi => ⟨(h.2 i hi).1.below hb hB, (h.2 i hi).2⟩⟩
theorem rgsAt_nil (w : World) : RgsAt w [] [] := ⟨rfl, fun i h => by simp at h⟩
theorem RgsAt.snoc {w : World} {l : List Ln} {vs : List Value} (h : RgsAt w l vs) {x : Ln} {v : Value} (hv : SpAt w v x.rng) (hr : Rg x.rng) : RgsAt w (l ++ [x]) (vs ++ [v]) := by
 refine ⟨by simp [h.1], fun i hi => ?_⟩
 by_cases hl : i < l.length
 ·have e1 : (l ++ [x]).getD i default = l.getD i default := by simp [List.getD_eq_getElem?_getD, List.getElem?_append_left hl]
  have e2 : (vs ++ [v]).getD i undef = vs.getD i undef := by simp [List.getD_eq_getElem?_getD, List.getElem?_append_left (show i < vs.length by rw [h.1]; exact hl)]
  rw [e1, e2]; exact h.2 i hl
 ·obtain rfl : i = l.length := by simp at hi; omega
  have e1 : (l ++ [x]).getD l.length default = x := by simp [List.getD_eq_getElem?_getD]
  have e2 : (vs ++ [v]).getD l.length undef = v := by simp [List.getD_eq_getElem?_getD, <- h.1]
  rw [e1, e2]; exact ⟨hv, hr⟩
def LnsAt (w : World) (v : Value) (l : List Ln) : Prop := ∃ vs, RgsAt w l vs /\ RowAt w v l.length (lnCells l vs)
theorem LnsAt.below {B : Nat} {w w' : World} {v : Value} {l : List Ln} (h : LnsAt w v l) (hb : Below B w w') (hB : w.heap.size <= B) : LnsAt w' v l := by
 obtain ⟨vs, h1, h2⟩ := h
 exact ⟨vs, h1.below hb hB, h2.below hb hB⟩
theorem LnsAt.at {w : World} {v : Value} {l : List Ln} (h : LnsAt w v l) (i : Nat) (hi : i < l.length) : ∃ g cap rv, v = .slice (some ⟨g, 0, none⟩) l.length cap /\ g < w.heap.size /\ SpAt w rv (l.getD i default).rng /\ Rg (l.getD i default).rng /\ w.cell? ⟨g, i * 7, none⟩ = some (.int .i64 (l.getD i default).kind) /\ w.cell? ⟨g, i * 7 + 1, none⟩ = some (.string (l.getD i default).name) /\ w.cell? ⟨g, i * 7 + 2, none⟩ = some (.int .i64 (l.getD i default).a) /\ w.cell? ⟨g, i * 7 + 3, none⟩ = some (.int .i64 (l.getD i default).b) /\ w.cell? ⟨g, i * 7 + 4, none⟩ = some (.int .i64 (l.getD i default).c) /\ w.cell? ⟨g, i * 7 + 5, none⟩ = some (.string (l.getD i default).other) /\ w.cell? ⟨g, i * 7 + 6, none⟩ = some rv := by
 obtain ⟨vs, h1, h2⟩ := h
 obtain ⟨g, cap, e, hg, hc⟩ := h2.cells (by omega)
 have H := fun j u hu => hc _ _ (lnCells_at l vs h1.1 i hi j u hu)
 exact ⟨g, cap, vs.getD i undef, e, hg, (h1.2 i hi).1, (h1.2 i hi).2, H 0 _ rfl, H 1 _ rfl, H 2 _ rfl, H 3 _ rfl, H 4 _ rfl, H 5 _ rfl, H 6 _ rfl⟩
end
section
open Go.RowKit Sv
theorem pair_any (x : Ln) (v : Value) (w : World) :
  Calls Tryz.prog 123 #[.agg #[.int .i64 x.kind, .string x.name, .int .i64 x.a, .int .i64 x.b, .int .i64 x.c, .string x.other, v]] w fun e w' => e = .returned (.bool (decide x.pair)) /\ w' = w.alloc (.cells #[.int .i64 x.kind, .string x.name, .int .i64 x.a, .int .i64 x.b, .int .i64 x.c, .string x.other, v] 98) := by
 have hd : decide x.pair = (decide (x.kind = 2) || decide (x.kind = 3)) := by
  by_cases h2 : x.kind = 2 <;> by_cases h3 : x.kind = 3 <;> simp [Ln.pair, h2, h3]
 rw [hd]
 clear hd
 generalize x.kind = k
 by_cases h2 : k = 2
 ·subst h2
  go_enter Tryz.func123, Tryz.ntmps123
  go_wp2
  go_ret
  exact ⟨rfl, rfl⟩
 ·by_cases h3 : k = 3
  ·subst h3
   go_enter Tryz.func123, Tryz.ntmps123
   go_wp2
   go_ret
   exact ⟨rfl, rfl⟩
  ·have e2 : (k == 2) = false := by simpa using h2
   have e3 : (k == 3) = false := by simpa using h3
   have HD : Hid ((decide (k = 2) || decide (k = 3)) = false) := by show _ = _; simp [h2, h3]
   go_enter Tryz.func123, Tryz.ntmps123
   go_wp2
   go_ret
   exact ⟨by rw [HD.out]; rfl, rfl⟩
def wl : Nat -> List UInt8
 | 1 => [112, 97, 99, 107, 97, 103, 101]
 | 2 => [110, 101, 101, 100, 115]
 | 3 => [99, 108, 97, 115, 104, 101, 115]
 | 4 => [114, 111, 111, 116]
 | _ => []
structure WordsAt (w : World) : Prop where
 c0 : w.cell? ⟨3, 0, none⟩ = some (.string ⟨#[]⟩)
 c1 : w.cell? ⟨3, 1, none⟩ = some (.string ⟨#[112, 97, 99, 107, 97, 103, 101]⟩)
 c2 : w.cell? ⟨3, 2, none⟩ = some (.string ⟨#[110, 101, 101, 100, 115]⟩)
 c3 : w.cell? ⟨3, 3, none⟩ = some (.string ⟨#[99, 108, 97, 115, 104, 101, 115]⟩)
 c4 : w.cell? ⟨3, 4, none⟩ = some (.string ⟨#[114, 111, 111, 116]⟩)
theorem WordsAt.below {B : Nat} {w w' : World} (h : WordsAt w) (hb : Below B w w') (hB : 3 < B) : WordsAt w' :=
 ⟨(hb.cell (p := ⟨3, 0, none⟩) hB).trans h.c0, (hb.cell (p := ⟨3, 1, none⟩) hB).trans h.c1, (hb.cell (p := ⟨3, 2, none⟩) hB).trans h.c2, (hb.cell (p := ⟨3, 3, none⟩) hB).trans h.c3, (hb.cell (p := ⟨3, 4, none⟩) hB).trans h.c4⟩
abbrev wordsV : Value := .agg #[.string ⟨#[]⟩, .string ⟨#[112, 97, 99, 107, 97, 103, 101]⟩, .string ⟨#[110, 101, 101, 100, 115]⟩, .string ⟨#[99, 108, 97, 115, 104, 101, 115]⟩, .string ⟨#[114, 111, 111, 116]⟩]
theorem wix (W : World) : (Instr.index 321 wordsV (.int .i64 0)).run Tryz.prog W = .ok (.string ⟨#[]⟩) W /\ (Instr.index 321 wordsV (.int .i64 1)).run Tryz.prog W = .ok (.string ⟨#[112, 97, 99, 107, 97, 103, 101]⟩) W /\ (Instr.index 321 wordsV (.int .i64 2)).run Tryz.prog W = .ok (.string ⟨#[110, 101, 101, 100, 115]⟩) W /\ (Instr.index 321 wordsV (.int .i64 3)).run Tryz.prog W = .ok (.string ⟨#[99, 108, 97, 115, 104, 101, 115]⟩) W /\ (Instr.index 321 wordsV (.int .i64 4)).run Tryz.prog W = .ok (.string ⟨#[114, 111, 111, 116]⟩) W := by
 refine ⟨?_, ?_, ?_, ?_, ?_⟩ <;> kernel_rfl
theorem kindF_at {s : ByteArray} {k : Nat} (hk : 1 <= k) (hk4 : k <= 4) (h : s.toList = wl k) : kindF s = k := by
 match k, hk, hk4, h with
 | 1, _, _, h => unfold kindF; rw [h]; rfl
 | 2, _, _, h => unfold kindF; rw [h]; rfl
 | 3, _, _, h => unfold kindF; rw [h]; rfl
 | 4, _, _, h => unfold kindF; rw [h]; rfl
theorem kindF_none {s : ByteArray} (h : s.toList = [] \/ ∀ j, j < 5 -> s.toList ≠ wl j) : kindF s = 0 := by
 rcases h with h | h
 ·unfold kindF; rw [h]; rfl
 ·unfold kindF
  have h1 : s.toList ≠ [112, 97, 99, 107, 97, 103, 101] := h 1 (by omega)
  have h2 : s.toList ≠ [110, 101, 101, 100, 115] := h 2 (by omega)
  have h3 : s.toList ≠ [99, 108, 97, 115, 104, 101, 115] := h 3 (by omega)
  have h4 : s.toList ≠ [114, 111, 111, 116] := h 4 (by omega)
  rw [if_neg h1, if_neg h2, if_neg h3, if_neg h4]
theorem kind_any (s : ByteArray) (w : World) (hw : WordsAt w) :
  Calls Tryz.prog 157 #[.string s] w fun e w' => e = .returned (.int .i64 (kindF s : Nat)) /\ w' = w := by
 obtain ⟨c0, c1, c2, c3, c4⟩ := hw
 go_enter Tryz.func157, Tryz.ntmps157
 go_wp2_with fail
 clear c0 c1 c2 c3 c4
 go_loop [6] (fun i => ∃ k : Nat, k <= 5 /\ i = .int .i64 (k : Int) /\ ∀ j, j < k -> s.toList ≠ wl j) (fun i => 5 - (intOf i).toNat)
 case atStart => exact ⟨0, by omega, rfl, fun j h => by omega⟩
 case round =>
  obtain ⟨k, hk, rfl, hne⟩ := hrel
  obtain ⟨x0, x1, x2, x3, x4⟩ := wix w
  have HNE := Lib.hid hne
  clear hne
  by_cases h5 : k = 5
  ·subst h5
   have HK : Hid (kindF s = 0) := kindF_none (Or.inr HNE.out)
   go_wp2
   go_ret
   exact ⟨by rw [HK.out]; rfl, rfl⟩
  ·have h4 : k < 5 := by omega
   clear h5 hk
   by_cases hs : s.toList = wl k
   ·have HK : Hid (kindF s = k) := by
     show _ = _
     by_cases h0 : k = 0
     ·subst h0; exact kindF_none (Or.inl hs)
     ·exact kindF_at (by omega) (by omega) hs
    match k, h4 with
    | 0, _ =>
     have hb : (([] : List UInt8) == s.toList) = true := by rw [hs]; rfl
     have hb2 : s.toList.isEmpty = true := by rw [hs]; rfl
     clear hs
     go_wp2
     go_ret
     exact ⟨by rw [HK.out]; rfl, rfl⟩
    | 1, _ =>
     have hb : ([112, 97, 99, 107, 97, 103, 101] == s.toList) = true := by rw [hs]; rfl
     clear hs
     go_wp2
     go_ret
     exact ⟨by rw [HK.out]; rfl, rfl⟩
    | 2, _ =>
     have hb : ([110, 101, 101, 100, 115] == s.toList) = true := by rw [hs]; rfl
     clear hs
     go_wp2
     go_ret
     exact ⟨by rw [HK.out]; rfl, rfl⟩
    | 3, _ =>
     have hb : ([99, 108, 97, 115, 104, 101, 115] == s.toList) = true := by rw [hs]; rfl
     clear hs
     go_wp2
     go_ret
     exact ⟨by rw [HK.out]; rfl, rfl⟩
    | 4, _ =>
     have hb : ([114, 111, 111, 116] == s.toList) = true := by rw [hs]; rfl
     clear hs
     go_wp2
     go_ret
     exact ⟨by rw [HK.out]; rfl, rfl⟩
   ·have HN2 : Hid (∀ j, j < k + 1 -> s.toList ≠ wl j) := fun j hj => by
     rcases Nat.lt_succ_iff_lt_or_eq.1 hj with h | h
     ·exact HNE.out j h
     ·rw [h]; exact hs
    have hs' : (wl k == s.toList) = false := by rw [beq_eq_false_iff_ne]; exact fun e => hs e.symm
    clear hs
    match k, h4 with
    | 0, _ =>
     have hb : (([] : List UInt8) == s.toList) = false := hs'
     have hb2 : s.toList.isEmpty = false := by
      cases h : s.toList with
      | nil => rw [h] at hb; cases hb
      | cons a t => rfl
     clear hs'
     go_wp2
     go_round
     case rel => exact ⟨1, by omega, rfl, HN2.out⟩
     case measure => simp [intOf]
    | 1, _ =>
     have hb : ([112, 97, 99, 107, 97, 103, 101] == s.toList) = false := hs'
     clear hs'
     go_wp2
     go_round
     case rel => exact ⟨2, by omega, rfl, HN2.out⟩
     case measure => simp [intOf]
    | 2, _ =>
     have hb : ([110, 101, 101, 100, 115] == s.toList) = false := hs'
     clear hs'
     go_wp2
     go_round
     case rel => exact ⟨3, by omega, rfl, HN2.out⟩
     case measure => simp [intOf]
    | 3, _ =>
     have hb : ([99, 108, 97, 115, 104, 101, 115] == s.toList) = false := hs'
     clear hs'
     go_wp2
     go_round
     case rel => exact ⟨4, by omega, rfl, HN2.out⟩
     case measure => simp [intOf]
    | 4, _ =>
     have hb : ([114, 111, 111, 116] == s.toList) = false := hs'
     clear hs'
     go_wp2
     go_round
     case rel => exact ⟨5, by omega, rfl, HN2.out⟩
     case measure => simp [intOf]
end
end Go.Proofs.YtpmpnbbihmgdpaaGreatDoor
