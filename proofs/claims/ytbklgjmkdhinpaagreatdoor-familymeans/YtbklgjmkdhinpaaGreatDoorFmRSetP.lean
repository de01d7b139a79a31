/- A row of sets into which one is put. -/
import Derived.Test.YtbklgjmkdhinpaaGreatDoorFmRLeast
import Derived.RangeFuncBound
import Derived.Laws.CopyOwn
import Derived.Deep.RegionLaw
import Derived.Deep.RegionHeldLaw
namespace Go.Proofs.YtbklgjmkdhinpaaGreatDoor.Fm
open Go.RowKit Go.Maps Go.Proofs.YtbklgjmkdhinpaaGreatDoor.Bd
def Blk (W : World) (b : Nat) (t : TypeId) (cs : Array Value) : Prop := W.heap[b]? = some (.cells cs t (0, 0))
theorem Blk.lt {W : World} {b : Nat} {t : TypeId} {cs : Array Value} (h : Blk W b t cs) : b < W.heap.size := (Array.getElem?_eq_some_iff.1 h).1
theorem Blk.cell {W : World} {b : Nat} {t : TypeId} {cs : Array Value} (h : Blk W b t cs) (i : Nat) : W.cell? ⟨b, i, none⟩ = cs[i]? := by
 simp [World.cell?, show W.heap[b]? = _ from h]
theorem Blk.frozen {W : World} {b : Nat} {t : TypeId} {cs : Array Value} (h : Blk W b t cs) (i : Nat) : W.frozen? ⟨b, i, none⟩ = false := by simp [World.frozen?, show W.heap[b]? = _ from h]
theorem Blk.new (W : World) (t : TypeId) (cs : Array Value) : Blk (W.alloc (.cells cs t)) W.heap.size t cs := World.alloc_heap_new W _
theorem Blk.kept {W W' : World} {row : Option Nat} {b : Nat} {t : TypeId} {cs : Array Value} (h : Blk W b t cs) (hg : W.grownBy W' row) (hne : some b ≠ row) : Blk W' b t cs := (hg.block b h.lt hne).trans h
theorem Blk.alloc {W : World} {b : Nat} {t : TypeId} {cs : Array Value} (h : Blk W b t cs) (o : Obj) : Blk (W.alloc o) b t cs := h.kept (World.grownBy_alloc W o none) (by simp)
theorem Blk.below {B : Nat} {W W' : World} {b : Nat} {t : TypeId} {cs : Array Value} (h : Blk W b t cs) (hb : Below B W W') (hB : b < B) : Blk W' b t cs := (hb.block b hB).trans h
theorem Blk.other {W : World} {b b' i : Nat} {t : TypeId} {cs : Array Value} {v : Value} (h : Blk W b t cs) (hne : b ≠ b') : Blk (W.setCell ⟨b', i, none⟩ v) b t cs := (Below.heap_setCell _ _ _ b hne).trans h
theorem Blk.put {W : World} {b l : Nat} {t : TypeId} {cs : Array Value} {o' : Obj} (h : Blk W b t cs) (hne : b ≠ l) : Blk (W.putObj l o') b t cs := (World.putObj_heap_other hne).trans h
theorem Blk.set {W : World} {b i : Nat} {t : TypeId} {cs : Array Value} {v : Value} (h : Blk W b t cs) : Blk (W.setCell ⟨b, i, none⟩ v) b t (cs.setIfInBounds i v) := by
 obtain ⟨hlt, hk⟩ := Array.getElem?_eq_some_iff.1 h
 show (W.heap.modify b _)[b]? = _
 rw [Array.getElem?_eq_getElem (by rw [Array.size_modify]; exact hlt), Array.getElem_modify_self, hk]
 rfl
theorem cell_one_newN (w : World) (A : Value) (t : TypeId) : ∀ (j : Nat) (u : Value), [A][j]? = some u -> (w.alloc (.cells #[A] t)).cell? (Addr.add ⟨w.heap.size, 0, none⟩ j) = some u := by
 intro j u h
 match j, h with
 | 0, h => simp at h; subst h; simp [Addr.add]
 | j + 1, h => simp at h
theorem ins_row {acc : List Nat} {n i : Nat} {cur : List Value} (hi : i <= acc.length) (hc : cur.take (acc.length + 1) = ucells acc ++ [.int .u64 0]) :
  ((splice cur (i + 1) ((ucells acc).drop i)).set i (.int .u64 (n : Int))).take (acc.length + 1) = ucells (acc.take i ++ n :: acc.drop i) := by
 have hlen : acc.length + 1 <= cur.length := by
  have := congrArg List.length hc
  rw [List.length_take, List.length_append, ucells_len, List.length_singleton] at this
  omega
 apply List.ext_getElem?
 intro j
 have hcj : ∀ j, j < acc.length + 1 -> cur[j]? = (ucells acc ++ [.int .u64 0])[j]? := fun j hj => by
  rw [<- hc, List.getElem?_take, if_pos hj]
 by_cases hj : j < acc.length + 1
 ·rw [List.getElem?_take, if_pos hj]
  unfold splice
  rw [List.getElem?_set]
  have hdl : ((ucells acc).drop i).length = acc.length - i := by rw [List.length_drop, ucells_len]
  by_cases hij : i = j
  ·subst hij
   rw [if_pos rfl, if_pos (by simp; omega)]
   unfold ucells
   rw [List.getElem?_map, List.getElem?_append_right (by rw [List.length_take]; omega)]
   rw [List.length_take, show i - min i acc.length = 0 by omega]
   rfl
  ·rw [if_neg hij]
   by_cases hlt : j < i
   ·rw [List.getElem?_append_left (by rw [List.length_take]; omega), List.getElem?_take, if_pos (by omega), hcj j hj, List.getElem?_append_left (by rw [ucells_len]; omega)]
    unfold ucells
    rw [List.getElem?_map, List.getElem?_map, List.getElem?_append_left (by rw [List.length_take]; omega), List.getElem?_take, if_pos hlt]
   ·rw [List.getElem?_append_right (by rw [List.length_take]; omega), List.length_take, show min (i + 1) cur.length = i + 1 by omega, List.getElem?_append_left (by rw [hdl]; omega), List.getElem?_drop]
    unfold ucells
    rw [List.getElem?_map, List.getElem?_map, List.getElem?_append_right (by rw [List.length_take]; omega), List.length_take, show j - min i acc.length = (j - i - 1) + 1 by omega, List.getElem?_cons_succ, List.getElem?_drop]
    congr 2
 ·rw [List.getElem?_take, if_neg hj, List.getElem?_eq_none]
  rw [ucells_len, List.length_append, List.length_cons, List.length_take, List.length_drop]
  omega
theorem ins_owns {w4 : World} {B g cap i n : Nat} {acc : List Nat} {cur : List Value} (hi : i <= acc.length) (hB : B <= g) (hnc : acc.length + 1 <= cap) (hmx : cap <= maxLen) (hsz : cur.length = cap) (htk : cur.take (acc.length + 1) = ucells acc ++ [.int .u64 0])
  (h4 : w4.heap[g]? = some (.cells (splice cur (i + 1) ((ucells acc).drop i)).toArray 46 (0, 0))) :
  (∃ u, w4.cell? ⟨g, i, none⟩ = some u) /\ w4.frozen? ⟨g, i, none⟩ = false /\ (w4.setCell ⟨g, i, none⟩ (.int .u64 (n : Int))).ownsRow B 46 1 (.slice (some ⟨g, 0, none⟩) (acc.length + 1) cap) (acc.length + 1) (ucells (acc.take i ++ n :: acc.drop i)) := by
 have k : Blk w4 g 46 (splice cur (i + 1) ((ucells acc).drop i)).toArray := h4
 have hdl : ((ucells acc).drop i).length = acc.length - i := by rw [List.length_drop, ucells_len]
 have hsl : (splice cur (i + 1) ((ucells acc).drop i)).length = cap := by rw [length_splice _ _ _ (by rw [hdl]; omega), hsz]
 refine ⟨?_, k.frozen i, ?_, .inr ⟨g, cap, _, rfl, hB, k.set (i := i), hnc, hmx, ?_, ?_⟩⟩
 ·rw [k.cell i]
  exact ⟨_, by rw [List.getElem?_toArray, List.getElem?_eq_getElem (by omega)]⟩
 ·rw [ucells_len, List.length_append, List.length_cons, List.length_take, List.length_drop]; omega
 ·rw [Array.size_setIfInBounds, List.size_toArray, hsl, Nat.mul_one]
 ·rw [Array.toList_setIfInBounds, Nat.mul_one]
  exact ins_row hi htk
theorem ins_facts {w3 : World} {B i n : Nat} {acc : List Nat} {v' : Value} (hi : i <= acc.length) (hown : w3.ownsRow B 46 1 v' (acc.length + 1) (ucells acc ++ [.int .u64 0])) :
  ∃ (g cap : Nat) (cur CS : List Value), v' = .slice (some ⟨g, 0, none⟩) (acc.length + 1) cap /\ B <= g /\ acc.length + 1 <= cap /\ w3.heap[g]? = some (.cells cur.toArray 46 (0, 0)) /\
   (∀ w4 : World, w4.heap[g]? = some (.cells (splice cur (i + 1) CS).toArray 46 (0, 0)) -> (∃ u, w4.cell? ⟨g, i, none⟩ = some u) /\ w4.frozen? ⟨g, i, none⟩ = false /\ (w4.setCell ⟨g, i, none⟩ (.int .u64 (n : Int))).ownsRow B 46 1 (.slice (some ⟨g, 0, none⟩) (acc.length + 1) cap) (acc.length + 1) (ucells (acc.take i ++ n :: acc.drop i))) /\
   (∀ j v, CS[j]? = some v -> w3.cell? ⟨g, i + j, none⟩ = some v) /\ (∀ v ∈ CS, v.oneCell' = true) /\ CS.length = Nat.min (acc.length + 1 - i) (acc.length + 1 - (i + 1)) /\ (i + 1) + CS.length <= cur.length := by
 rcases hown.2 with ⟨_, h0'⟩ | ⟨g, cap, cur, rfl, hBg, hg, hnc, hmx, hsz, htk⟩
 ·exact absurd h0' (by simp)
 have hdl : ((ucells acc).drop i).length = acc.length - i := by rw [List.length_drop, ucells_len]
 have hsz' : cur.toList.length = cap := by simpa using hsz
 refine ⟨g, cap, cur.toList, (ucells acc).drop i, rfl, hBg, hnc, hg, fun w4 h4 => ins_owns hi hBg hnc hmx hsz' (by simpa using htk) h4, fun j v hv => ?_, fun v hv => ?_, ?_, ?_⟩
 ·have hj : i + j < acc.length := by have := (List.getElem?_eq_some_iff.1 hv).1; rw [List.length_drop, ucells_len] at this; omega
  rw [(show Blk w3 g 46 cur from hg).cell, <- hv, List.getElem?_drop, <- Array.getElem?_toList, show cur.toList[i + j]? = (cur.toList.take ((acc.length + 1) * 1))[i + j]? by rw [List.getElem?_take, if_pos (by omega)], htk, List.getElem?_append_left (by rw [ucells_len]; omega)]
 ·obtain ⟨x, _, rfl⟩ := List.mem_map.1 (List.mem_of_mem_drop hv); rfl
 ·rw [hdl]; show _ = min _ _; omega
 ·rw [hdl, hsz']; omega
theorem urow_form {B n : Nat} {w : World} {v : Value} {t : TypeId} {cs : List Value} (h : w.ownsRow B t 1 v n cs) : ∃ a c, v = .slice a n c := by
 rcases h.2 with ⟨e, e0⟩ | ⟨g, cap, cur, e, -⟩
 ·exact ⟨none, 0, by rw [e, e0]⟩
 ·exact ⟨_, _, e⟩
theorem urow_cell {B : Nat} {w : World} {a : Option Addr} {c : Nat} {l : List Nat} (h : w.ownsRow B 46 1 (.slice a l.length c) l.length (ucells l)) (i : Nat) (hi : i < l.length) : ∃ g, a = some ⟨g, 0, none⟩ /\ w.cell? ⟨g, i, none⟩ = some (.int .u64 (l.getD i 0 : Nat)) := by
 rcases h.2 with ⟨e, e0⟩ | ⟨g, cap, cur, e, hB, hg, hn, hm, hsz, htake⟩
 ·omega
 ·cases e
  refine ⟨g, rfl, ?_⟩
  have := h.cellAt i (by omega)
  rwa [ucells_at l i hi] at this
theorem RM.below {w w' : World} {b r n cnt : Nat} {S R : Nat -> Prop} (h : RM w b r S R cnt) (hb : Below n w w') (h1 : b < n) (h2 : r < n) : RM w' b r S R cnt := by
 obtain ⟨L, D, left, ⟨es, clock, since, seen, c0, e1, F, hs, hD, e2, rest⟩, h2'⟩ := h
 exact ⟨L, D, left, ⟨es, clock, since, seen, c0, (hb.block b h1).trans e1, F, hs, hD, (hb.block r h2).trans e2, rest⟩, h2'⟩
theorem infoU : (Tryz.prog.info? 46).map (fun i => (i.zero, i.size, i.bytes)) = some (some (.int .u64 0), 1, 8) := by kernel_rfl
theorem sizeU : (Tryz.prog.info? 46).map (·.size) = some 1 := by kernel_rfl
theorem ins_sorted {acc : List Nat} {n i : Nat} (hs : acc.Pairwise (· < ·)) (hn : n ∉ acc) (hi : i <= acc.length) (hhi : ∀ j, i <= j -> j < acc.length -> n < acc.getD j 0) (hlo : i = 0 \/ ¬ n < acc.getD (i - 1) 0) : (acc.take i ++ n :: acc.drop i).Pairwise (· < ·) := by
 have hd : ∀ y ∈ acc.drop i, n < y := fun y hy => by
  obtain ⟨k, hk, rfl⟩ := List.mem_iff_getElem.1 hy
  rw [List.length_drop] at hk
  have := hhi (i + k) (by omega) (by omega)
  rw [List.getElem_drop]
  rwa [List.getD_eq_getElem?_getD, List.getElem?_eq_getElem (by omega)] at this
 have ht : ∀ y ∈ acc.take i, y < n := fun y hy => by
  obtain ⟨k, hk, rfl⟩ := List.mem_iff_getElem.1 hy
  rw [List.length_take] at hk
  have hk' : k < acc.length := by omega
  rw [List.getElem_take]
  have h2 : ¬ n < acc.getD (i - 1) 0 := hlo.resolve_left (by omega)
  rw [List.getD_eq_getElem?_getD, List.getElem?_eq_getElem (show i - 1 < acc.length by omega)] at h2
  simp only [Option.getD_some] at h2
  have h3 : acc[k] <= acc[i - 1] := by
   by_cases e : k = i - 1
   ·subst e; exact Nat.le_refl _
   ·exact Nat.le_of_lt (List.pairwise_iff_getElem.1 hs k (i - 1) hk' (by omega) (by omega))
  have h4 : acc[k] ≠ n := fun e => hn (e ▸ List.getElem_mem hk')
  omega
 rw [List.pairwise_append]
 refine ⟨hs.sublist (List.take_sublist _ _), ?_, fun x hx y hy => ?_⟩
 ·rw [List.pairwise_cons]; exact ⟨hd, hs.sublist (List.drop_sublist _ _)⟩
 ·rcases List.mem_cons.1 hy with rfl | hy
  ·exact ht x hx
  ·exact Nat.lt_trans (ht x hx) (hd y hy)
theorem ins_mem {acc : List Nat} {n i y : Nat} : y ∈ acc.take i ++ n :: acc.drop i ↔ y ∈ acc \/ y = n := by
 rw [List.mem_append, List.mem_cons]
 constructor
 ·rintro (h | h | h)
  ·exact .inl (List.mem_of_mem_take h)
  ·exact .inr h
  ·exact .inl (List.mem_of_mem_drop h)
 ·rintro (h | h)
  ·rw [<- List.take_append_drop i acc] at h
   rcases List.mem_append.1 h with h | h
   ·exact .inl h
   ·exact .inr (.inr h)
  ·exact .inr (.inl h)
theorem ins_len {acc : List Nat} {n i : Nat} (hi : i <= acc.length) : (acc.take i ++ n :: acc.drop i).length = acc.length + 1 := by
 rw [List.length_append, List.length_cons, List.length_take, List.length_drop]; omega
end Go.Proofs.YtbklgjmkdhinpaaGreatDoor.Fm
