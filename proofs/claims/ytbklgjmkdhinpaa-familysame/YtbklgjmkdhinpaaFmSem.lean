/- What a family's handle has; the same family is the same handle. -/
import Derived.Test.YtbklgjmkdhinpaaBdAt
namespace Go.Proofs.Ytbklgjmkdhinpaa.Fm
open Go.RowKit Go.Maps Go.Proofs.Ytbklgjmkdhinpaa.Bd
def inF : Nat -> List Nd -> Int -> Nat -> Bool
 | 0, _, h, x => decide (h = 1 /\ x = 0)
 | d + 1, ns, h, x =>
  if topOf ns h = 24 then decide (h = 1 /\ x = 0)
  else if x.testBit (topOf ns h).toNat = true then inF d ns (nd ns (pl h)).h (x ^^^ 2 ^ (topOf ns h).toNat) else inF d ns (nd ns (pl h)).l x
def inB (ns : List Nd) (h : Int) (x : Nat) : Bool := inF 24 ns h x
def In (ns : List Nd) (h : Int) (x : Nat) : Prop := inB ns h x = true
structure Good (vars : Nat) (ns : List Nd) : Prop where
 ranked : Ranked ns
 once : ∀ i j, i < ns.length -> j < ns.length -> (nd ns i).v < 24 -> nd ns i = nd ns j -> i = j
 red : ∀ i, i < ns.length -> (nd ns i).v < 24 -> (nd ns i).h ≠ 0
 vars : ∀ i, i < ns.length -> (nd ns i).v < 24 -> (nd ns i).v < (vars : Int)
 free : ∀ i, i < ns.length -> ¬ (nd ns i).v < 24 -> nd ns i = ⟨24, 0, 0⟩
section
variable {ns : List Nd}
theorem inF_any (hr : Ranked ns) : ∀ (d e : Nat) (h : Int) (x : Nat), 24 <= topOf ns h + d -> 24 <= topOf ns h + e -> inF d ns h x = inF e ns h x
 | 0, 0, h, _, _, _ => rfl
 | 0, e + 1, h, x, hd, _ => by
  have := (topOf_le hr h).2
  unfold inF; rw [if_pos (by omega)]
 | d + 1, 0, h, x, _, he => by
  have := (topOf_le hr h).2
  unfold inF; rw [if_pos (by omega)]
 | d + 1, e + 1, h, x, hd, he => by
  unfold inF
  by_cases ht : topOf ns h = 24
  ·rw [if_pos ht, if_pos ht]
  ·rw [if_neg ht, if_neg ht]
   obtain ⟨k1, -, k2, -⟩ := kids hr ht
   rw [inF_any hr d e _ _ (by omega) (by omega), inF_any hr d e (nd ns (pl h)).l _ (by omega) (by omega)]
theorem inB_end {h : Int} (ht : topOf ns h = 24) (x : Nat) : inB ns h x = decide (h = 1 /\ x = 0) := by
 unfold inB inF; rw [if_pos ht]
theorem in_zero (x : Nat) : ¬ In ns 0 x := by unfold In; rw [inB_end (by simp [topOf])]; simp
theorem in_one (x : Nat) : In ns 1 x ↔ x = 0 := by unfold In; rw [inB_end (by simp [topOf])]; simp
theorem inB_node (hr : Ranked ns) {h : Int} (ht : topOf ns h ≠ 24) (x : Nat) : inB ns h x = if x.testBit (topOf ns h).toNat = true then inB ns (nd ns (pl h)).h (x ^^^ 2 ^ (topOf ns h).toNat) else inB ns (nd ns (pl h)).l x := by
 obtain ⟨k1, -, k2, -⟩ := kids hr ht
 have h0 := (topOf_le hr h).1
 show inF 24 ns h x = _
 unfold inF
 rw [if_neg ht, inF_any hr 23 24 _ _ (by omega) (by omega), inF_any hr 23 24 (nd ns (pl h)).l _ (by omega) (by omega)]
 rfl
def loZ (ns : List Nd) (h v : Int) : Int := if topOf ns h = v then (nd ns (pl h)).l else h
def hiZ (ns : List Nd) (h v : Int) : Int := if topOf ns h = v then (nd ns (pl h)).h else 0
theorem end_has0 (ns : List Nd) : hasB ns 0 = true := by simp [hasB]
theorem end_has1 (ns : List Nd) : hasB ns 1 = true := by simp [hasB]
theorem end_top0 (ns : List Nd) : topOf ns 0 = 24 := by simp [topOf]
theorem end_top1 (ns : List Nd) : topOf ns 1 = 24 := by simp [topOf]
theorem loZ_has (hr : Ranked ns) {h v : Int} (hv : v < 24) (hh : hasB ns h = true) : hasB ns (loZ ns h v) = true /\ (v <= topOf ns h -> v < topOf ns (loZ ns h v)) := by
 unfold loZ
 by_cases e : topOf ns h = v
 ·rw [if_pos e]
  have := kids hr (h := h) (by omega)
  exact ⟨this.2.1, fun _ => by omega⟩
 ·rw [if_neg e]; exact ⟨hh, fun h => by omega⟩
theorem hiZ_has (hr : Ranked ns) {h v : Int} (hv : v < 24) : hasB ns (hiZ ns h v) = true /\ v < topOf ns (hiZ ns h v) := by
 unfold hiZ
 by_cases e : topOf ns h = v
 ·rw [if_pos e]
  have := kids hr (h := h) (by omega)
  exact ⟨this.2.2.2, by omega⟩
 ·rw [if_neg e]; exact ⟨end_has0 ns, by rw [end_top0]; exact hv⟩
theorem xor_bit (x v : Nat) : (x ^^^ 2 ^ v).testBit v = !x.testBit v := by rw [Nat.testBit_xor, Nat.testBit_two_pow]; simp
theorem xor_bit_ne (x : Nat) {v i : Nat} (h : i ≠ v) : (x ^^^ 2 ^ v).testBit i = x.testBit i := by rw [Nat.testBit_xor, Nat.testBit_two_pow]; simp [Ne.symm h]
theorem xor_back (x v : Nat) : x ^^^ 2 ^ v ^^^ 2 ^ v = x := by rw [Nat.xor_assoc, Nat.xor_self, Nat.xor_zero]
theorem inF_low (hr : Ranked ns) : ∀ (d : Nat) (h : Int) (x i : Nat), (i : Int) < topOf ns h -> x.testBit i = true -> inF d ns h x = false
 | 0, h, x, i, _, hx => by
  unfold inF
  have : x ≠ 0 := fun e => by subst e; simp at hx
  simp [this]
 | d + 1, h, x, i, hi, hx => by
  unfold inF
  have hne : x ≠ 0 := fun e => by subst e; simp at hx
  by_cases ht : topOf ns h = 24
  ·rw [if_pos ht]; simp [hne]
  ·rw [if_neg ht]
   obtain ⟨k1, -, k2, -⟩ := kids hr ht
   split
   ·exact inF_low hr d _ _ i (by omega) (by rw [xor_bit_ne _ (by omega)]; exact hx)
   ·exact inF_low hr d _ _ i (by omega) hx
theorem in_low (hr : Ranked ns) {h : Int} {x i : Nat} (hi : (i : Int) < topOf ns h) (hx : In ns h x) : x.testBit i = false := by
 cases e : x.testBit i with
 | false => rfl
 | true =>
  have := inF_low hr 24 h x i hi e
  unfold In inB at hx; rw [this] at hx; cases hx
theorem in_parts (hr : Ranked ns) {h v : Int} (hv0 : 0 <= v) (hv : v < 24) (hle : v <= topOf ns h) (x : Nat) : In ns h x ↔ if x.testBit v.toNat = true then In ns (hiZ ns h v) (x ^^^ 2 ^ v.toNat) else In ns (loZ ns h v) x := by
 unfold loZ hiZ
 by_cases e : topOf ns h = v
 ·rw [if_pos e, if_pos e]
  unfold In
  rw [inB_node hr (by omega), e]
  split <;> rfl
 ·rw [if_neg e, if_neg e]
  split
  ·rename_i hx
   refine ⟨fun h => ?_, fun h => absurd h (in_zero _)⟩
   rw [in_low hr (by omega) h] at hx; cases hx
  ·exact Iff.rfl
theorem parts_same (hr : Ranked ns) {a b v : Int} (hv0 : 0 <= v) (hv : v < 24) (ha : hasB ns a = true) (hb : hasB ns b = true) (hta : v <= topOf ns a) (htb : v <= topOf ns b) (h : ∀ x, In ns a x ↔ In ns b x) :
  (∀ x, In ns (loZ ns a v) x ↔ In ns (loZ ns b v) x) /\ (∀ x, In ns (hiZ ns a v) x ↔ In ns (hiZ ns b v) x) := by
 have la := (loZ_has hr hv ha).2 hta
 have lb := (loZ_has hr hv hb).2 htb
 have ga := (hiZ_has (h := a) hr hv).2
 have gb := (hiZ_has (h := b) hr hv).2
 refine ⟨fun x => ?_, fun x => ?_⟩
 ·cases e : x.testBit v.toNat with
  | false =>
   have := h x
   rw [in_parts hr hv0 hv hta, in_parts hr hv0 hv htb, e] at this
   simpa using this
  | true =>
   refine ⟨fun k => ?_, fun k => ?_⟩
   ·rw [in_low hr (by omega) k] at e; cases e
   ·rw [in_low hr (by omega) k] at e; cases e
 ·cases e : x.testBit v.toNat with
  | false =>
   have := h (x ^^^ 2 ^ v.toNat)
   rw [in_parts hr hv0 hv hta, in_parts hr hv0 hv htb, xor_bit, e, xor_back] at this
   simpa using this
  | true =>
   refine ⟨fun k => ?_, fun k => ?_⟩
   ·rw [in_low hr (by omega) k] at e; cases e
   ·rw [in_low hr (by omega) k] at e; cases e
theorem canon {vars : Nat} (hg : Good vars ns) : ∀ (d : Nat) (a b : Int), 24 <= topOf ns a + d -> 24 <= topOf ns b + d -> hasB ns a = true -> hasB ns b = true -> (∀ x, In ns a x ↔ In ns b x) -> a = b
 | 0, a, b, da, db, ha, hb, h => by
  have ta := (topOf_le hg.ranked a).2
  have tb := (topOf_le hg.ranked b).2
  have := h 0
  rcases end_of ha (by omega) with rfl | rfl <;> rcases end_of hb (by omega) with rfl | rfl
  ·rfl
  ·exact absurd (this.2 ((in_one 0).2 rfl)) (in_zero 0)
  ·exact absurd (this.1 ((in_one 0).2 rfl)) (in_zero 0)
  ·rfl
 | d + 1, a, b, da, db, ha, hb, h => by
  have ta := topOf_le hg.ranked a
  have tb := topOf_le hg.ranked b
  by_cases e : topOf ns a = 24 /\ topOf ns b = 24
  ·exact canon hg 0 a b (by omega) (by omega) ha hb h
  ·have hr := hg.ranked
   obtain ⟨v, hv, hva, hvb, hve⟩ : ∃ v, v < 24 /\ v <= topOf ns a /\ v <= topOf ns b /\ (v = topOf ns a \/ v = topOf ns b) := by
    rcases Int.lt_or_le (topOf ns a) (topOf ns b) with h1 | h1
    ·exact ⟨topOf ns a, by omega, by omega, by omega, .inl rfl⟩
    ·exact ⟨topOf ns b, by omega, by omega, by omega, .inr rfl⟩
   have hv0 : 0 <= v := by omega
   obtain ⟨sl, sh⟩ := parts_same hr hv0 hv ha hb hva hvb h
   have la := loZ_has hr hv ha
   have lb := loZ_has hr hv hb
   have ga := hiZ_has (h := a) hr hv
   have gb := hiZ_has (h := b) hr hv
   have e1 := canon hg d _ _ (by have := la.2 hva; omega) (by have := lb.2 hvb; omega) la.1 lb.1 sl
   have e2 := canon hg d _ _ (by have := ga.2; omega) (by have := gb.2; omega) ga.1 gb.1 sh
   unfold loZ at e1; unfold hiZ at e2
   by_cases ca : topOf ns a = v
   ·obtain ⟨na1, na2, na3, na4⟩ := node_at (ns := ns) (h := a) (by omega)
    by_cases cb : topOf ns b = v
    ·obtain ⟨nb1, nb2, nb3, nb4⟩ := node_at (ns := ns) (h := b) (by omega)
     rw [if_pos ca, if_pos cb] at e1 e2
     have := hg.once (pl a) (pl b) na2 nb2 (by omega) (by
      have e0 : (nd ns (pl a)).v = (nd ns (pl b)).v := by omega
      exact nd_eq e0 e1 e2)
     rw [na4, nb4, this]
    ·rw [if_pos ca, if_neg cb] at e2
     exact absurd e2 (hg.red _ na2 (by omega))
   ·have cb : topOf ns b = v := by omega
    obtain ⟨nb1, nb2, nb3, nb4⟩ := node_at (ns := ns) (h := b) (by omega)
    rw [if_neg ca, if_pos cb] at e2
    exact absurd e2.symm (hg.red _ nb2 (by omega))
theorem same_handle {vars : Nat} (hg : Good vars ns) {a b : Int} (ha : hasB ns a = true) (hb : hasB ns b = true) (h : ∀ x, In ns a x ↔ In ns b x) : a = b :=
 canon hg 24 a b (by have := (topOf_le hg.ranked a).1; omega) (by have := (topOf_le hg.ranked b).1; omega) ha hb h
theorem inF_ext {ns' : List Nd} (hr : Ranked ns) (he : Ext ns ns') : ∀ (d : Nat) (h : Int) (x : Nat), hasB ns h = true -> inF d ns' h x = inF d ns h x
 | 0, _, _, _ => rfl
 | d + 1, h, x, hh => by
  unfold inF
  rw [he.top h hh]
  by_cases ht : topOf ns h = 24
  ·rw [if_pos ht, if_pos ht]
  ·obtain ⟨-, k1, -, k2⟩ := kids hr ht
   rw [if_neg ht, if_neg ht, he.node h hh ht, inF_ext hr he d _ _ k1, inF_ext hr he d _ _ k2]
theorem in_ext {ns' : List Nd} (hr : Ranked ns) (he : Ext ns ns') {h : Int} (hh : hasB ns h = true) (x : Nat) : In ns' h x ↔ In ns h x := by
 unfold In inB; rw [inF_ext hr he 24 h x hh]
end
end Go.Proofs.Ytbklgjmkdhinpaa.Fm
