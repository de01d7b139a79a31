/- The reference: what a rule makes of two ranges, ahead of the walk. -/
import Derived.Test.YtmhophccdfmngaaGreatDoorSvNs
import Derived.Test.YtmhophccdfmngaaGreatDoorSvCuts
import Derived.Laws.CopyOwn
import Derived.Deep.RegionLaw
import Derived.Laws.BitsLemmas
namespace Go.Proofs.YtmhophccdfmngaaGreatDoor
open Go.RowKit Sv
theorem infoIntN : (Tryz.prog.info? 3).map (fun i => (i.zero, i.size, i.bytes)) = some (some (.int .i64 0), 1, 8) := by kernel_rfl
theorem sizeIntN : (Tryz.prog.info? 3).map (·.size) = some 1 := by kernel_rfl
theorem cell_one_newN (w : World) (A : Value) (t : TypeId) : ∀ (j : Nat) (u : Value), [A][j]? = some u -> (w.alloc (.cells #[A] t)).cell? (Addr.add ⟨w.heap.size, 0, none⟩ j) = some u := by
 intro j u h
 match j, h with
 | 0, h => simp at h; subst h; simp [Addr.add]
 | j + 1, h => simp at h
def rowsX (a b : List Nat) : Nat -> List Nat
 | 0 => [0, ALL]
 | 1 => a
 | _ => b
def accX (a b : List Nat) : Nat -> List Nat
 | 0 => []
 | j + 1 => allP (accX a b j) (rowsX a b j)
theorem allP_snoc (acc l : List Nat) (k : Nat) (hk : k < l.length) : allP acc (l.take (k + 1)) = insP (allP acc (l.take k)) (nv l k) := by
 unfold allP
 rw [List.take_succ_eq_append_getElem hk, List.foldl_append, List.foldl_cons, List.foldl_nil, nv_at l k hk]
theorem allP_len (l acc : List Nat) : (allP acc l).length = acc.length + l.length := by
 have hi : ∀ (l : List Nat) (n : Nat), (insP l n).length = l.length + 1 := fun l n => by
  unfold insP; rw [List.length_append, List.length_cons, List.length_take, List.length_drop]; have := pos_le l n l.length; omega
 induction l generalizing acc with
 | nil => rfl
 | cons x l ih => show (allP (insP acc x) l).length = _; rw [ih, hi, List.length_cons]; omega
theorem accX_len (a b : List Nat) (j : Nat) (hj : j <= 3) : (accX a b j).length <= a.length + b.length + 2 := by
 match j, hj with
 | 0, _ => simp [accX]
 | 1, _ => simp [accX, allP_len, rowsX]
 | 2, _ => simp [accX, allP_len, rowsX]; omega
 | 3, _ => simp [accX, allP_len, rowsX]; omega
theorem accX_len2 (a b : List Nat) (j k : Nat) (hj : j < 3) : (allP (accX a b j) ((rowsX a b j).take k)).length <= a.length + b.length + 2 := by
 have h := accX_len a b (j + 1) hj
 rw [accX, allP_len] at h
 rw [allP_len, List.length_take]
 omega
theorem ins_row {acc : List Nat} {n i : Nat} {cur : List Value} (hi : i <= acc.length) (hc : cur.take (acc.length + 1) = ncells acc ++ [.int .i64 0]) :
  ((splice cur (i + 1) ((ncells acc).drop i)).set i (.int .i64 (n : Int))).take (acc.length + 1) = ncells (acc.take i ++ n :: acc.drop i) := by
 have hlen : acc.length + 1 <= cur.length := by
  have := congrArg List.length hc
  rw [List.length_take, List.length_append, ncells_length, List.length_singleton] at this
  omega
 apply List.ext_getElem?
 intro j
 have hcj : ∀ j, j < acc.length + 1 -> cur[j]? = (ncells acc ++ [.int .i64 0])[j]? := fun j hj => by
  rw [<- hc, List.getElem?_take, if_pos hj]
 by_cases hj : j < acc.length + 1
 ·rw [List.getElem?_take, if_pos hj]
  unfold splice
  rw [List.getElem?_set]
  have hdl : ((ncells acc).drop i).length = acc.length - i := by rw [List.length_drop, ncells_length]
  by_cases hij : i = j
  ·subst hij
   rw [if_pos rfl, if_pos (by simp; omega)]
   unfold ncells
   rw [List.getElem?_map, List.getElem?_append_right (by rw [List.length_take]; omega)]
   rw [List.length_take, show i - min i acc.length = 0 by omega]
   rfl
  ·rw [if_neg hij]
   by_cases hlt : j < i
   ·rw [List.getElem?_append_left (by rw [List.length_take]; omega), List.getElem?_take, if_pos (by omega), hcj j hj, List.getElem?_append_left (by rw [ncells_length]; omega)]
    unfold ncells
    rw [List.getElem?_map, List.getElem?_map, List.getElem?_append_left (by rw [List.length_take]; omega), List.getElem?_take, if_pos hlt]
   ·rw [List.getElem?_append_right (by rw [List.length_take]; omega), List.length_take, show min (i + 1) cur.length = i + 1 by omega, List.getElem?_append_left (by rw [hdl]; omega), List.getElem?_drop]
    unfold ncells
    rw [List.getElem?_map, List.getElem?_map, List.getElem?_append_right (by rw [List.length_take]; omega), List.length_take, show j - min i acc.length = (j - i - 1) + 1 by omega, List.getElem?_cons_succ, List.getElem?_drop]
    congr 2
 ·rw [List.getElem?_take, if_neg hj, List.getElem?_eq_none]
  rw [ncells_length, List.length_append, List.length_cons, List.length_take, List.length_drop]
  omega
theorem ins_owns {w4 : World} {B g cap i n : Nat} {acc : List Nat} {cur : List Value} (hi : i <= acc.length) (hB : B <= g) (hnc : acc.length + 1 <= cap) (hmx : cap <= maxLen) (hsz : cur.length = cap) (htk : cur.take (acc.length + 1) = ncells acc ++ [.int .i64 0])
  (h4 : w4.heap[g]? = some (.cells (splice cur (i + 1) ((ncells acc).drop i)).toArray 3 (0, 0))) :
  (∃ u, w4.cell? ⟨g, i, none⟩ = some u) /\ w4.frozen? ⟨g, i, none⟩ = false /\ (w4.setCell ⟨g, i, none⟩ (.int .i64 (n : Int))).ownsRow B 3 1 (.slice (some ⟨g, 0, none⟩) (acc.length + 1) cap) (acc.length + 1) (ncells (acc.take i ++ n :: acc.drop i)) := by
 have k : Blk w4 g 3 (splice cur (i + 1) ((ncells acc).drop i)).toArray := h4
 have hdl : ((ncells acc).drop i).length = acc.length - i := by rw [List.length_drop, ncells_length]
 have hsl : (splice cur (i + 1) ((ncells acc).drop i)).length = cap := by rw [length_splice _ _ _ (by rw [hdl]; omega), hsz]
 refine ⟨?_, k.frozen i, ?_, .inr ⟨g, cap, _, rfl, hB, k.set (i := i), hnc, hmx, ?_, ?_⟩⟩
 ·rw [k.cell i]
  exact ⟨_, by rw [List.getElem?_toArray, List.getElem?_eq_getElem (by omega)]⟩
 ·rw [ncells_length, List.length_append, List.length_cons, List.length_take, List.length_drop]; omega
 ·rw [Array.size_setIfInBounds, List.size_toArray, hsl, Nat.mul_one]
 ·rw [Array.toList_setIfInBounds, Nat.mul_one]
  exact ins_row hi htk
theorem turns_len (f : Nat -> Bool) (is : Bool) (l : List Nat) : (turnsF f is l).length <= l.length := by
 induction l generalizing is with
 | nil => exact Nat.le_refl _
 | cons n r ih =>
  unfold turnsF
  split
  ·have := ih is; rw [List.length_cons]; omega
  ·have := ih (f n); rw [List.length_cons, List.length_cons]; omega
theorem turns_same {f : Nat -> Bool} {is : Bool} {l : List Nat} {k : Nat} (hk : k < l.length) (h : f (nv l k) = is) : turnsF f is (l.drop k) = turnsF f is (l.drop (k + 1)) := by
 rw [List.drop_eq_getElem_cons hk, turnsF, <- nv_at l k hk, if_pos h]
theorem turns_turn {f : Nat -> Bool} {is : Bool} {l : List Nat} {k : Nat} (hk : k < l.length) (h : ¬ f (nv l k) = is) : turnsF f is (l.drop k) = nv l k :: turnsF f (f (nv l k)) (l.drop (k + 1)) := by
 rw [List.drop_eq_getElem_cons hk, turnsF, <- nv_at l k hk, if_neg h]
theorem rowsX_len (a b : List Nat) (hla : a.length <= 1000000000) (hlb : b.length <= 1000000000) : ∀ j, (rowsX a b j).length <= 1000000000
 | 0 => Nat.le_of_ble_eq_true rfl
 | 1 => hla
 | _ + 2 => hlb
theorem rows_facts (a b : List Nat) (aa ab : Option Addr) (ca cb : Nat) (w W0 : World) (hW0 : (w.alloc (.cells #[.int .i64 0, .int .i64 1000000000] 3)).alloc (.cells #[.slice (some ⟨w.heap.size, 0, none⟩) 2 2, .slice aa a.length ca, .slice ab b.length cb] 23) = W0)
  (HVA : NsAt w (.slice aa a.length ca) a) (HVB : NsAt w (.slice ab b.length cb) b) :
  Below w.heap.size w W0 /\ (∀ j, j < 3 -> ∃ x c, ∀ W, Below W0.heap.size W0 W -> W.cell? ⟨w.heap.size + 1, j, none⟩ = some (.slice x (rowsX a b j).length c) /\ NsAt W (.slice x (rowsX a b j).length c) (rowsX a b j)) := by
 have HB0 : Below w.heap.size w W0 := by rw [<- hW0]; exact ((Below.refl _ w).alloc (Nat.le_refl _) _).alloc (by simp) _
 refine ⟨HB0, fun j hj => ?_⟩
 have k0 : Blk W0 w.heap.size 3 #[.int .i64 0, .int .i64 1000000000] := by rw [<- hW0]; exact (Blk.new w 3 _).alloc _
 have k1 : Blk W0 (w.heap.size + 1) 23 #[.slice (some ⟨w.heap.size, 0, none⟩) 2 2, .slice aa a.length ca, .slice ab b.length cb] := by rw [<- hW0]; have := Blk.new (w.alloc (.cells #[.int .i64 0, .int .i64 1000000000] 3)) 23 #[.slice (some ⟨w.heap.size, 0, none⟩) 2 2, .slice aa a.length ca, .slice ab b.length cb]; rw [World.size_alloc] at this; exact this
 match j, hj with
 | 0, _ => exact ⟨some ⟨w.heap.size, 0, none⟩, 2, fun W hb => ⟨(k1.below hb k1.lt).cell 0, ⟨_, _, rfl⟩, fun i hi => ⟨_, _, rfl, (k0.below hb k0.lt).lt, by
   match i, hi with
   | 0, _ => exact (k0.below hb k0.lt).cell 0
   | 1, _ => exact (k0.below hb k0.lt).cell 1⟩⟩⟩
 | 1, _ => exact ⟨aa, ca, fun W hb => ⟨(k1.below hb k1.lt).cell 1, HVA.below (HB0.trans (hb.mono HB0.size)) (Nat.le_refl _)⟩⟩
 | 2, _ => exact ⟨ab, cb, fun W hb => ⟨(k1.below hb k1.lt).cell 2, HVB.below (HB0.trans (hb.mono HB0.size)) (Nat.le_refl _)⟩⟩
theorem ins_facts {w3 : World} {B i n : Nat} {acc : List Nat} {v' : Value} (hi : i <= acc.length) (hown : w3.ownsRow B 3 1 v' (acc.length + 1) (ncells acc ++ [.int .i64 0])) :
  ∃ (g cap : Nat) (cur CS : List Value), v' = .slice (some ⟨g, 0, none⟩) (acc.length + 1) cap /\ B <= g /\ acc.length + 1 <= cap /\ w3.heap[g]? = some (.cells cur.toArray 3 (0, 0)) /\
   (∀ w4 : World, w4.heap[g]? = some (.cells (splice cur (i + 1) CS).toArray 3 (0, 0)) -> (∃ u, w4.cell? ⟨g, i, none⟩ = some u) /\ w4.frozen? ⟨g, i, none⟩ = false /\ (w4.setCell ⟨g, i, none⟩ (.int .i64 (n : Int))).ownsRow B 3 1 (.slice (some ⟨g, 0, none⟩) (acc.length + 1) cap) (acc.length + 1) (ncells (acc.take i ++ n :: acc.drop i))) /\
   (∀ j v, CS[j]? = some v -> w3.cell? ⟨g, i + j, none⟩ = some v) /\ (∀ v ∈ CS, v.oneCell' = true) /\ CS.length = Nat.min (acc.length + 1 - i) (acc.length + 1 - (i + 1)) /\ (i + 1) + CS.length <= cur.length := by
 rcases hown.2 with ⟨_, h0'⟩ | ⟨g, cap, cur, rfl, hBg, hg, hnc, hmx, hsz, htk⟩
 ·exact absurd h0' (by simp)
 have hdl : ((ncells acc).drop i).length = acc.length - i := by rw [List.length_drop, ncells_length]
 have hsz' : cur.toList.length = cap := by simpa using hsz
 refine ⟨g, cap, cur.toList, (ncells acc).drop i, rfl, hBg, hnc, hg, fun w4 h4 => ins_owns hi hBg hnc hmx hsz' (by simpa using htk) h4, fun j v hv => ?_, fun v hv => ?_, ?_, ?_⟩
 ·have hj : i + j < acc.length := by have := (List.getElem?_eq_some_iff.1 hv).1; rw [List.length_drop, ncells_length] at this; omega
  rw [(show Blk w3 g 3 cur from hg).cell, <- hv, List.getElem?_drop, <- Array.getElem?_toList, show cur.toList[i + j]? = (cur.toList.take ((acc.length + 1) * 1))[i + j]? by rw [List.getElem?_take, if_pos (by omega)], htk, List.getElem?_append_left (by rw [ncells_length]; omega)]
 ·obtain ⟨x, _, rfl⟩ := List.mem_map.1 (List.mem_of_mem_drop hv); rfl
 ·rw [hdl]; show _ = min _ _; omega
 ·rw [hdl, hsz']; omega
end Go.Proofs.YtmhophccdfmngaaGreatDoor
