/- The sets of a family, as they are gathered. -/
import Derived.Test.YtkpjipohajplgaaGreatDoorBdNode
import Derived.Test.YtkpjipohajplgaaGreatDoorFmMap
import Derived.Test.YtkpjipohajplgaaGreatDoorCnNum
import Derived.Test.YtkpjipohajplgaaGreatDoorArTop
namespace Go.Proofs.YtkpjipohajplgaaGreatDoor.Bd
open Go.RowKit Go.Maps
def pickV (x : Int) (n : Nat) : Nat := ((x % 18446744073709551616).toNat) % n
theorem pickV_lt (x : Int) {n : Nat} (h : 0 < n) : pickV x n < n := Nat.mod_lt _ h
end Go.Proofs.YtkpjipohajplgaaGreatDoor.Bd
namespace Go.Proofs.YtkpjipohajplgaaGreatDoor.Fm
open Go.RowKit Go.Maps Go.Proofs.YtkpjipohajplgaaGreatDoor.Bd
section
variable {ns : List Nd} {vars : Nat}
theorem inF_swept (hr : Ranked ns) (fs : List Int) : ∀ (d : Nat) (h : Int) (x : Nat), MarkedOr ns (marksOf ns fs) h -> inF d (swept ns (marksOf ns fs)) h x = inF d ns h x
 | 0, _, _, _ => rfl
 | d + 1, h, x, hm => by
  obtain ⟨e1, e2⟩ := swept_node hm
  unfold inF
  rw [e1]
  by_cases ht : topOf ns h = 24
  ·rw [if_pos ht, if_pos ht]
  ·have hk := marksOf_closed hr fs (pl h) (node_at ht).2.1 (hm.resolve_left ht)
   rw [if_neg ht, if_neg ht, e2 ht, inF_swept hr fs d _ _ hk.1, inF_swept hr fs d _ _ hk.2]
theorem swept_kept (hg : Good vars ns) {fs : List Int} {h : Int} (hh : h ∈ fs) (hb : hasB ns h = true) : hasB (swept ns (marksOf ns fs)) h = true /\ ∀ x, In (swept ns (marksOf ns fs)) h x ↔ In ns h x := by
 have hm := marksOf_in hg.ranked fs h hh
 refine ⟨?_, fun x => by unfold In inB; rw [inF_swept hg.ranked fs 24 h x hm]⟩
 unfold hasB; rw [(swept_node hm).1]; exact hb
end
def alAt (al : List Int) (x : Int) : Int := al.getD (pickV x al.length) 0
abbrev Fam : Type := Nat -> Prop
def tAt (T : List Fam) (x : Int) : Fam := T.getD (pickV x T.length) (fun _ => False)
structure Sems (vars : Nat) (ns : List Nd) (al : List Int) (T : List Fam) : Prop where
 has : ∀ h ∈ al, hasB ns h = true
 len : al.length = T.length
 mem : ∀ i (h1 : i < al.length) (h2 : i < T.length), ∀ x, In ns al[i] x ↔ T[i] x
section
variable {vars : Nat} {ns : List Nd} {al : List Int} {T : List Fam}
theorem Sems.at (h : Sems vars ns al T) (hne : 0 < al.length) (x : Int) : hasB ns (alAt al x) = true /\ ∀ y, In ns (alAt al x) y ↔ tAt T x y := by
 have hl := pickV_lt x hne
 have e1 : alAt al x = al[pickV x al.length] := by unfold alAt; simp [List.getD_eq_getElem?_getD, List.getElem?_eq_getElem hl]
 have e2 : tAt T x = T[pickV x T.length]'(by rw [<- h.len]; exact hl) := by unfold tAt; simp [List.getD_eq_getElem?_getD, List.getElem?_eq_getElem (show pickV x T.length < T.length by rw [<- h.len]; exact hl)]
 refine ⟨by rw [e1]; exact h.has _ (List.getElem_mem hl), fun y => ?_⟩
 have h0 := h.mem (pickV x al.length) hl (by rw [<- h.len]; exact hl) y
 have e3 : T[pickV x al.length]'(by rw [<- h.len]; exact hl) = T[pickV x T.length]'(by rw [<- h.len]; exact hl) := getElem_congr_idx (by rw [h.len])
 rw [e1, h0, e2, e3]
theorem Sems.swept (hg : Good vars ns) (h : Sems vars ns al T) : Sems vars (Go.Proofs.YtkpjipohajplgaaGreatDoor.Bd.swept ns (marksOf ns al)) al T :=
 ⟨fun x hx => (swept_kept hg hx (h.has x hx)).1, h.len, fun i h1 h2 x => by rw [(swept_kept hg (List.getElem_mem h1) (h.has _ (List.getElem_mem h1))).2 x]; exact h.mem i h1 h2 x⟩
theorem Sems.more {ns' : List Nd} {x : Int} {g : Fam} (hr : Ranked ns) (h : Sems vars ns al T) (he : Ext ns ns') (hx : hasB ns' x = true) (hs : ∀ y, In ns' x y ↔ g y) : Sems vars ns' (al ++ [x]) (T ++ [g]) := by
 refine ⟨fun y hy => ?_, by simp [h.len], fun i h1 h2 y => ?_⟩
 ·rcases List.mem_append.1 hy with hy | hy
  ·exact he.has y (h.has y hy)
  ·rw [List.mem_singleton] at hy; subst hy; exact hx
 ·by_cases hi : i < al.length
  ·rw [List.getElem_append_left hi, List.getElem_append_left (by rw [<- h.len]; exact hi), in_ext hr he (h.has _ (List.getElem_mem hi))]
   exact h.mem i hi (by rw [<- h.len]; exact hi) y
  ·have e : i = al.length := by simp at h1; omega
   subst e
   have e2 : (T ++ [g])[al.length]'h2 = g := by simp [h.len]
   rw [e2]; simp [hs y]
theorem Sems.ext {ns' : List Nd} (hr : Ranked ns) (h : Sems vars ns al T) (he : Ext ns ns') : Sems vars ns' al T :=
 ⟨fun y hy => he.has y (h.has y hy), h.len, fun i h1 h2 y => by rw [in_ext hr he (h.has _ (List.getElem_mem h1))]; exact h.mem i h1 h2 y⟩
end
end Go.Proofs.YtkpjipohajplgaaGreatDoor.Fm
namespace Go.Proofs.YtkpjipohajplgaaGreatDoor.Fm
open Go.RowKit Go.Maps Go.Proofs.YtkpjipohajplgaaGreatDoor.Bd
def stF : Nat -> List Nd -> Int -> Nat -> List Nat
 | 0, _, h, x => if h = 1 then [x] else []
 | d + 1, ns, h, x => if topOf ns h = 24 then (if h = 1 then [x] else []) else stF d ns (nd ns (pl h)).l x ++ stF d ns (nd ns (pl h)).h (x ||| 2 ^ (topOf ns h).toNat)
def stL (ns : List Nd) (h : Int) (x : Nat) : List Nat := stF 24 ns h x
def allS : Nat -> Nat -> List Nat
 | 0, _ => [0]
 | n + 1, v => allS n (v + 1) ++ (allS n (v + 1)).map fun y => 2 ^ v ||| y
theorem allS_low : ∀ (n v y : Nat), y ∈ allS n v -> ∀ i, i < v -> y.testBit i = false
 | 0, v, y, hy, i, hi => by
  unfold allS at hy; rw [List.mem_singleton] at hy; subst hy; simp
 | n + 1, v, y, hy, i, hi => by
  unfold allS at hy
  rcases List.mem_append.1 hy with h | h
  ·exact allS_low n (v + 1) y h i (by omega)
  ·obtain ⟨z, hz, rfl⟩ := List.mem_map.1 h
   rw [Nat.testBit_or, allS_low n (v + 1) z hz i (by omega), Nat.testBit_two_pow]
   simp; omega
section
variable {ns : List Nd} {vars : Nat}
theorem stF_any (hr : Ranked ns) : ∀ (d e : Nat) (h : Int) (x : Nat), 24 <= topOf ns h + d -> 24 <= topOf ns h + e -> stF d ns h x = stF e ns h x
 | 0, 0, h, _, _, _ => rfl
 | 0, e + 1, h, x, hd, _ => by
  have := (topOf_le hr h).2
  unfold stF; rw [if_pos (show topOf ns h = 24 by omega)]
 | d + 1, 0, h, x, _, he => by
  have := (topOf_le hr h).2
  unfold stF; rw [if_pos (show topOf ns h = 24 by omega)]
 | d + 1, e + 1, h, x, hd, he => by
  unfold stF
  by_cases ht : topOf ns h = 24
  ·rw [if_pos ht, if_pos ht]
  ·rw [if_neg ht, if_neg ht]
   obtain ⟨k1, -, k2, -⟩ := kids hr ht
   rw [stF_any hr d e _ _ (by omega) (by omega), stF_any hr d e (nd ns (pl h)).h _ (by omega) (by omega)]
theorem stL_end {h : Int} (ht : topOf ns h = 24) (x : Nat) : stL ns h x = if h = 1 then [x] else [] := by unfold stL stF; rw [if_pos ht]
theorem stL_node (hr : Ranked ns) {h : Int} (ht : topOf ns h ≠ 24) (x : Nat) : stL ns h x = stL ns (nd ns (pl h)).l x ++ stL ns (nd ns (pl h)).h (x ||| 2 ^ (topOf ns h).toNat) := by
 obtain ⟨k1, -, k2, -⟩ := kids hr ht
 have h0 := (topOf_le hr h).1
 show stF 24 ns h x = stF 24 _ _ _ ++ stF 24 _ _ _
 rw [show stF 24 ns h x = stF 23 ns (nd ns (pl h)).l x ++ stF 23 ns (nd ns (pl h)).h (x ||| 2 ^ (topOf ns h).toNat) from by unfold stF; rw [if_neg ht]; rfl]
 rw [stF_any hr 23 24 _ _ (by omega) (by omega), stF_any hr 23 24 (nd ns (pl h)).h _ (by omega) (by omega)]
theorem or_bit_free {y v : Nat} (h : y.testBit v = false) : 2 ^ v ||| y = y ^^^ 2 ^ v := by
 apply Nat.eq_of_testBit_eq; intro i
 rw [Nat.testBit_or, Nat.testBit_two_pow, bit_x]
 by_cases e : i = v
 ·subst e; simp [h]
 ·simp [e, Ne.symm e]
theorem stL_zero (hg : Good vars ns) {h : Int} (x : Nat) (hle : (vars : Int) <= topOf ns h) : stL ns h x = (([0] : List Nat).filter (inB ns h)).map fun y => x ||| y := by
 have ht : topOf ns h = 24 := by
  by_cases t : topOf ns h = 24
  ·exact t
  ·have := top_vars hg t; omega
 rw [stL_end ht, List.filter_cons, inB_end ht]
 by_cases e : h = 1
 ·simp [e]
 ·simp [e]
theorem filter_lo (hr : Ranked ns) {h : Int} {v : Nat} (ht : topOf ns h ≠ 24) (tn : (topOf ns h).toNat = v) (A : List Nat) (low : ∀ y ∈ A, y.testBit v = false) : A.filter (inB ns h) = A.filter (inB ns (nd ns (pl h)).l) := by
 apply List.filter_congr
 intro y hy
 rw [inB_node hr ht, tn, if_neg (by rw [low y hy]; decide)]
theorem filter_hi (hr : Ranked ns) {h : Int} {v : Nat} (ht : topOf ns h ≠ 24) (tn : (topOf ns h).toNat = v) (A : List Nat) (low : ∀ y ∈ A, y.testBit v = false) : A.filter (inB ns h ∘ fun y => 2 ^ v ||| y) = A.filter (inB ns (nd ns (pl h)).h) := by
 apply List.filter_congr
 intro y hy
 have hb := low y hy
 rw [Function.comp_apply, or_bit_free hb, inB_node hr ht, tn, if_pos (by rw [xor_bit, hb]; rfl), xor_back]
theorem filter_no (hr : Ranked ns) {h : Int} {v : Nat} (hv : (v : Int) < topOf ns h) (A : List Nat) : A.filter (inB ns h ∘ fun y => 2 ^ v ||| y) = [] := by
 rw [List.filter_eq_nil_iff]
 intro y hy hin0
 rw [Function.comp_apply] at hin0
 have hin : In ns h (2 ^ v ||| y) := hin0
 have hb : (2 ^ v ||| y).testBit v = true := by rw [Nat.testBit_or, Nat.testBit_two_pow]; simp
 have hc := in_low hr (h := h) (x := 2 ^ v ||| y) (i := v) hv hin
 rw [hb] at hc; cases hc
theorem allS_succ (n v : Nat) : allS (n + 1) v = allS n (v + 1) ++ (allS n (v + 1)).map fun y => 2 ^ v ||| y := rfl
theorem stL_is (hg : Good vars ns) (hv24 : vars <= 24) (n : Nat) : ∀ (v : Nat) (h : Int) (x : Nat), v + n = vars -> hasB ns h = true -> (v : Int) <= topOf ns h -> stL ns h x = ((allS n v).filter (inB ns h)).map fun y => x ||| y := by
 have hr := hg.ranked
 induction n with
 | zero =>
  intro v h x hv hh hle
  exact stL_zero hg x (by omega)
 | succ n ih =>
  intro v h x hv hh hle
  have low : ∀ y ∈ allS n (v + 1), y.testBit v = false := fun y hy => allS_low n (v + 1) y hy v (by omega)
  rw [allS_succ, List.filter_append, List.map_append, List.filter_map, List.map_map]
  by_cases e : topOf ns h = (v : Int)
  ·have ht : topOf ns h ≠ 24 := by omega
   obtain ⟨k1, k2, k3, k4⟩ := kids hr ht
   have tn : (topOf ns h).toNat = v := by omega
   rw [stL_node hr ht, ih (v + 1) _ x (by omega) k2 (by omega), ih (v + 1) _ _ (by omega) k4 (by omega), tn, filter_lo hr ht tn _ low, filter_hi hr ht tn _ low]
   congr 1
   apply List.map_congr_left
   intro y hy
   show _ = x ||| (2 ^ v ||| y)
   rw [Nat.or_assoc]
  ·rw [ih (v + 1) h x (by omega) hh (by omega), filter_no hr (by omega)]
   simp
theorem stL_all (hg : Good vars ns) (hv24 : vars <= 24) {h : Int} (hh : hasB ns h = true) : stL ns h 0 = (allS vars 0).filter (inB ns h) := by
 rw [stL_is hg hv24 vars 0 h 0 (by omega) hh (topOf_le hg.ranked h).1]
 simp
theorem stF_len (ns : List Nd) : ∀ (d : Nat) (h : Int) (x : Nat), (stF d ns h x).length <= 2 ^ d
 | 0, h, x => by unfold stF; split <;> simp
 | d + 1, h, x => by
  unfold stF
  have := Nat.one_le_two_pow (n := d + 1)
  split
  ·split <;> simp <;> omega
  ·have h1 := stF_len ns d (nd ns (pl h)).l x
   have h2 := stF_len ns d (nd ns (pl h)).h (x ||| 2 ^ (topOf ns h).toNat)
   rw [List.length_append, Nat.pow_succ]; omega
end
end Go.Proofs.YtkpjipohajplgaaGreatDoor.Fm
