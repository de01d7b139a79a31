/- The tables of what a handle leads to. Plain: no memory. -/
import Derived.Test.YtcjjekhecjmaeaaGreatDoorBdTab
import Derived.Test.YtcjjekhecjmaeaaGreatDoorBdSem
import Derived.Test.YtcjjekhecjmaeaaGreatDoorBdNode
namespace Go.Proofs.YtcjjekhecjmaeaaGreatDoor
section
open Go.RowKit Go.Maps
theorem or_fin : ∀ i : Fin 64, ∀ v : Fin 6, bits .or .i64 (i.val : Int) ((2 : Int) ^ v.val) = ((i.val ||| 1 <<< v.val : Nat) : Int) := by decide +kernel
theorem or_lt_fin : ∀ n : Fin 7, ∀ i : Fin 64, ∀ v : Fin 6, v.val < n.val -> i.val < 2 ^ n.val -> i.val ||| 1 <<< v.val < 2 ^ n.val := by decide +kernel
theorem off_fin : ∀ i : Fin 64, ∀ v : Fin 6, 0 <= bits .andNot .i64 (i.val : Int) ((2 : Int) ^ v.val) /\ (bits .andNot .i64 (i.val : Int) ((2 : Int) ^ v.val)).toNat <= i.val /\ ∀ k : Fin 6, (bits .andNot .i64 (i.val : Int) ((2 : Int) ^ v.val)).toNat.testBit k.val = if k.val = v.val then false else i.val.testBit k.val := by decide +kernel
theorem bit_fin : ∀ i : Fin 64, ∀ v : Fin 6, (bits .and .i64 ((i.val : Int) / 2 ^ v.val) 1 == 1) = i.val.testBit v.val := by decide +kernel
theorem pow_le6 {vars : Nat} (h6 : vars <= 6) : 2 ^ vars <= 64 := Nat.pow_le_pow_right (n := 2) (by omega) h6
theorem big_bit {x k : Nat} (hx : x < 64) (hk : 6 <= k) : x.testBit k = false := Nat.testBit_lt_two_pow (Nat.lt_of_lt_of_le hx (Nat.pow_le_pow_right (n := 2) (by omega) hk))
theorem on_num {i v vars : Nat} (hi : i < 2 ^ vars) (hv : v < vars) (h6 : vars <= 6) : bits .or .i64 (i : Int) ((2 : Int) ^ v) = ((i ||| 1 <<< v : Nat) : Int) /\ i ||| 1 <<< v < 2 ^ vars := by
 have := pow_le6 h6
 exact ⟨or_fin ⟨i, by omega⟩ ⟨v, by omega⟩, or_lt_fin ⟨vars, by omega⟩ ⟨i, by omega⟩ ⟨v, by omega⟩ hv hi⟩
def offN (i v : Nat) : Nat := (bits .andNot .i64 (i : Int) ((2 : Int) ^ v)).toNat
theorem off_num {i v vars : Nat} (hi : i < 2 ^ vars) (hv : v < vars) (h6 : vars <= 6) : bits .andNot .i64 (i : Int) ((2 : Int) ^ v) = (offN i v : Int) /\ offN i v < 2 ^ vars := by
 have := pow_le6 h6
 obtain ⟨h1, h2, -⟩ := off_fin ⟨i, by omega⟩ ⟨v, by omega⟩
 simp only at h1 h2
 unfold offN
 exact ⟨by omega, by omega⟩
theorem bits_off {i v vars : Nat} (hi : i < 2 ^ vars) (hv : v < vars) (h6 : vars <= 6) : bitsF (offN i v) = turn (bitsF i) v false := by
 have p6 := pow_le6 h6
 obtain ⟨h1, h2, h3⟩ := off_fin ⟨i, by omega⟩ ⟨v, by omega⟩
 simp only at h1 h2 h3
 funext k
 unfold bitsF turn offN
 by_cases hk : k < 6
 ·have := h3 ⟨k, hk⟩
  simp only at this
  rw [this]
 ·have q1 : (bits BinOp.andNot IntKind.i64 (i : Int) (2 ^ v)).toNat.testBit k = false := big_bit (by omega) (by omega)
  have q2 : i.testBit k = false := big_bit (by omega) (by omega)
  show _ = if k = v then false else i.testBit k
  rw [q1, q2]
  split <;> rfl
theorem bit_num {i v : Nat} (hi : i < 64) (hv : v < 6) : (bits .and .i64 ((i : Int) / 2 ^ v) 1 == 1) = bitsF i v := bit_fin ⟨i, hi⟩ ⟨v, hv⟩
end
section
open Go.RowKit
def numD (D : List Int) (h : Int) : Int := if h = 0 \/ h = 1 then h else 2 + (D.idxOf h : Int)
def postF (ns : List Nd) : Nat -> Int -> List Int -> List Int
 | 0, _, D => D
 | d + 1, h, D => if topOf ns h = 24 \/ h ∈ D then D else postF ns d (nd ns (pl h)).h (postF ns d (nd ns (pl h)).l D) ++ [h]
def InD (D : List Int) (h : Int) : Prop := h = 0 \/ h = 1 \/ h ∈ D
theorem InD.mono {D E : List Int} {h : Int} (hi : InD D h) (he : ∀ x ∈ D, x ∈ E) : InD E h := by
 rcases hi with h | h | h
 ·exact .inl h
 ·exact .inr (.inl h)
 ·exact .inr (.inr (he _ h))
structure Listed (ns : List Nd) (D : List Int) : Prop where
 node : ∀ x ∈ D, topOf ns x ≠ 24
 nodup : D.Nodup
 kid : ∀ x ∈ D, InD D (nd ns (pl x)).l /\ InD D (nd ns (pl x)).h
theorem idxOf_app {D E : List Int} {h : Int} (hm : h ∈ D) : (D ++ E).idxOf h = D.idxOf h := by rw [List.idxOf_append, if_pos hm]
theorem numD_app {D E : List Int} {h : Int} (hi : InD D h) : numD (D ++ E) h = numD D h := by
 unfold numD
 split
 ·rfl
 ·rename_i hn
  have hm : h ∈ D := by
   rcases hi with e | e | e
   ·exact absurd (.inl e) hn
   ·exact absurd (.inr e) hn
   ·exact e
  rw [idxOf_app hm]
theorem numD_new {D : List Int} {h : Int} (h0 : h ≠ 0) (h1 : h ≠ 1) (hn : h ∉ D) : numD (D ++ [h]) h = 2 + (D.length : Int) := by
 unfold numD
 rw [if_neg (by omega), List.idxOf_append, if_neg hn]
 simp
theorem numD_mem {D : List Int} {h : Int} (hm : h ∈ D) (h0 : h ≠ 0) (h1 : h ≠ 1) : 2 <= numD D h /\ numD D h < 2 + (D.length : Int) := by
 unfold numD
 rw [if_neg (by omega)]
 have := List.idxOf_lt_length_of_mem hm
 omega
theorem numD_bd {D : List Int} {h : Int} (hi : InD D h) : 0 <= numD D h /\ numD D h < 2 + (D.length : Int) := by
 rcases hi with rfl | rfl | hm
 ·unfold numD; simp; omega
 ·unfold numD; simp; omega
 ·by_cases e : h = 0 \/ h = 1
  ·unfold numD; rw [if_pos e]; omega
  ·have := numD_mem hm (by omega) (by omega); omega
section
variable {ns : List Nd}
theorem post_pre : ∀ (d : Nat) (h : Int) (D : List Int), ∃ E, postF ns d h D = D ++ E
 | 0, _, D => ⟨[], by simp [postF]⟩
 | d + 1, h, D => by
  unfold postF
  split
  ·exact ⟨[], by simp⟩
  ·obtain ⟨E1, e1⟩ := post_pre d (nd ns (pl h)).l D
   obtain ⟨E2, e2⟩ := post_pre d (nd ns (pl h)).h (D ++ E1)
   exact ⟨E1 ++ (E2 ++ [h]), by rw [e1, e2]; simp⟩
theorem post_mono {d : Nat} {h : Int} {D : List Int} {x : Int} (hx : x ∈ D) : x ∈ postF ns d h D := by
 obtain ⟨E, e⟩ := post_pre (ns := ns) d h D
 rw [e]; exact List.mem_append_left _ hx
theorem post_ok (hr : Ranked ns) : ∀ (d : Nat) (h : Int) (D : List Int), Listed ns D -> hasB ns h = true -> 24 <= topOf ns h + d -> Listed ns (postF ns d h D) /\ InD (postF ns d h D) h /\ ∀ x ∈ postF ns d h D, x ∈ D \/ topOf ns h <= topOf ns x
 | 0, h, D, hD, hh, ht => by
  have h24 := (topOf_le hr h).2
  refine ⟨hD, ?_, fun x hx => .inl hx⟩
  rcases hasB_cases hh with e | e | e
  ·exact .inl e
  ·exact .inr (.inl e)
  ·omega
 | d + 1, h, D, hD, hh, ht => by
  unfold postF
  by_cases c : topOf ns h = 24 \/ h ∈ D
  ·rw [if_pos c]
   refine ⟨hD, ?_, fun x hx => .inl hx⟩
   rcases c with c | c
   ·rcases hasB_cases hh with e | e | e
    ·exact .inl e
    ·exact .inr (.inl e)
    ·omega
   ·exact .inr (.inr c)
  ·rw [if_neg c]
   have ht24 : topOf ns h ≠ 24 := fun e => c (.inl e)
   obtain ⟨k1, k2, k3, k4⟩ := kids hr ht24
   obtain ⟨l1, l2, l3⟩ := post_ok hr d _ D hD k2 (by omega)
   obtain ⟨r1, r2, r3⟩ := post_ok hr d _ _ l1 k4 (by omega)
   have hn : h ∉ postF ns d (nd ns (pl h)).h (postF ns d (nd ns (pl h)).l D) := fun hm => by
    rcases r3 h hm with hm | hm
    ·rcases l3 h hm with hm | hm
     ·exact c (.inr hm)
     ·omega
    ·omega
   have hlR : InD (postF ns d (nd ns (pl h)).h (postF ns d (nd ns (pl h)).l D)) (nd ns (pl h)).l := l2.mono (fun x hx => post_mono hx)
   generalize postF ns d (nd ns (pl h)).h (postF ns d (nd ns (pl h)).l D) = R at *
   refine ⟨⟨fun x hx => ?_, ?_, fun x hx => ?_⟩, .inr (.inr (by simp)), fun x hx => ?_⟩
   ·rcases List.mem_append.1 hx with hx | hx
    ·exact r1.node x hx
    ·rw [List.mem_singleton] at hx; subst hx; exact ht24
   ·rw [List.nodup_append]
    exact ⟨r1.nodup, by simp, fun a ha b hb e => by rw [List.mem_singleton] at hb; subst hb; subst e; exact hn ha⟩
   ·rcases List.mem_append.1 hx with hx | hx
    ·have := r1.kid x hx
     exact ⟨this.1.mono (fun y hy => List.mem_append_left _ hy), this.2.mono (fun y hy => List.mem_append_left _ hy)⟩
    ·rw [List.mem_singleton] at hx; subst hx
     exact ⟨hlR.mono (fun y hy => List.mem_append_left _ hy), r2.mono (fun y hy => List.mem_append_left _ hy)⟩
   ·rcases List.mem_append.1 hx with hx | hx
    ·rcases r3 x hx with hx | hx
     ·rcases l3 x hx with hx | hx
      ·exact .inl hx
      ·exact .inr (by omega)
     ·exact .inr (by omega)
    ·rw [List.mem_singleton] at hx; subst hx; exact .inr (Int.le_refl _)
end
end
section
open Go.RowKit
def tabH (vars : Nat) (ns : List Nd) (h : Int) : List Bool := tabOf vars (fun f => sem ns h f)
section
variable {vars : Nat} {ns : List Nd}
theorem tabH_len (h : Int) : (tabH vars ns h).length = 2 ^ vars := tabOf_len _ _
theorem tabH_at (h : Int) (i : Nat) (hi : i < (tabH vars ns h).length) : (tabH vars ns h)[i] = sem ns h (bitsF i) := tabOf_at _ _ i hi
theorem tabH_same (hg : Good vars ns) {a b : Int} (ha : hasB ns a = true) (hb : hasB ns b = true) : tabH vars ns a = tabH vars ns b ↔ a = b := (same_tab hg ha hb (fun _ => rfl) (fun _ => rfl)).symm
theorem sem_turn_lo (hr : Ranked ns) {h : Int} {v : Nat} (hv : (v : Int) < 24) (hh : hasB ns h = true) (ht : (v : Int) <= topOf ns h) (f : Nat -> Bool) : sem ns h (turn f v false) = sem ns (loS ns h v) f := by
 rw [sem_sides hr hv, show ((v : Int)).toNat = v by omega, turn_eq]
 refine sem_agree hr (fun i hi => turn_ne f false (fun e => ?_))
 have := (loS_has hr hv hh).2.1 ht
 omega
theorem sem_turn_hi (hr : Ranked ns) {h : Int} {v : Nat} (hv : (v : Int) < 24) (hh : hasB ns h = true) (ht : (v : Int) <= topOf ns h) (f : Nat -> Bool) : sem ns h (turn f v true) = sem ns (hiS ns h v) f := by
 rw [sem_sides hr hv, show ((v : Int)).toNat = v by omega, turn_eq]
 refine sem_agree hr (fun i hi => turn_ne f true (fun e => ?_))
 have := (hiS_has hr hv hh).2.1 ht
 omega
theorem tab_lo (hg : Good vars ns) (h6 : vars <= 6) {h : Int} {v i : Nat} (hv : v < vars) (hh : hasB ns h = true) (ht : (v : Int) <= topOf ns h) (hi : i < 2 ^ vars) : (tabH vars ns h).getD (offN i v) false = (tabH vars ns (loS ns h v)).getD i false := by
 have ho := (off_num hi hv h6).2
 rw [List.getD_eq_getElem?_getD, List.getElem?_eq_getElem (by rw [tabH_len]; exact ho), List.getD_eq_getElem?_getD, List.getElem?_eq_getElem (by rw [tabH_len]; exact hi)]
 rw [Option.getD_some, Option.getD_some, tabH_at, tabH_at, bits_off hi hv h6, sem_turn_lo hg.ranked (by omega) hh ht]
theorem tab_hi (hg : Good vars ns) (h6 : vars <= 6) {h : Int} {v i : Nat} (hv : v < vars) (hh : hasB ns h = true) (ht : (v : Int) <= topOf ns h) (hi : i < 2 ^ vars) (ho : i ||| 1 <<< v < 2 ^ vars) : (tabH vars ns h).getD (i ||| 1 <<< v) false = (tabH vars ns (hiS ns h v)).getD i false := by
 rw [List.getD_eq_getElem?_getD, List.getElem?_eq_getElem (by rw [tabH_len]; exact ho), List.getD_eq_getElem?_getD, List.getElem?_eq_getElem (by rw [tabH_len]; exact hi)]
 rw [Option.getD_some, Option.getD_some, tabH_at, tabH_at, bits_or, sem_turn_hi hg.ranked (by omega) hh ht]
theorem sides_eq (hg : Good vars ns) {h : Int} {v : Nat} (hv : (v : Int) < 24) (hh : hasB ns h = true) : tabH vars ns (loS ns h v) = tabH vars ns (hiS ns h v) ↔ topOf ns h ≠ v := by
 rw [tabH_same hg (loS_has hg.ranked hv hh).1 (hiS_has hg.ranked hv hh).1]
 unfold loS hiS
 by_cases e : topOf ns h = v
 ·rw [if_pos e, if_pos e]
  have ht : topOf ns h ≠ 24 := by omega
  obtain ⟨h1, h2, h3, -⟩ := node_at ht
  exact ⟨fun e2 => absurd e2 (hg.red _ h2 (by omega)), fun e2 => absurd e e2⟩
 ·rw [if_neg e, if_neg e]
  exact ⟨fun _ => e, fun _ => rfl⟩
end
end
end Go.Proofs.YtcjjekhecjmaeaaGreatDoor
