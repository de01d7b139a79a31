/- An image's lines are read again: numbers, lines, what is listed. Plain: no memory. -/
import Derived.Test.YtcjjekhecjmaeaaGreatDoorImAllP
namespace Go.Proofs.YtcjjekhecjmaeaaGreatDoor
open Go.RowKit Go.Maps Num Go.Sort Go.PlainAid
theorem dec_inj {m n : Nat} (h : Lib.decDigits m = Lib.decDigits n) : m = n := by rw [<- (dec_val m).1, <- (dec_val n).1, h]
theorem dec_shape (u : Nat) : 0 < (Lib.decDigits u).length /\ ((Lib.decDigits u)[0]? = some 48 -> (Lib.decDigits u).length = 1) := by
 induction u using Nat.strongRecOn with
 | _ u ih =>
  rw [Lib.decDigits]
  split
  ·simp
  ·rename_i h
   obtain ⟨h1, h2⟩ := ih (u / 10) (by omega)
   refine ⟨by simp, fun h3 => ?_⟩
   rw [List.getElem?_append_left h1] at h3
   have h4 := h2 h3
   have h5 : Lib.decDigits (u / 10) = Lib.decDigits 0 := by
    rw [show Lib.decDigits 0 = [48] from by rw [Lib.decDigits]; rfl]
    obtain ⟨b, hb⟩ := List.length_eq_one_iff.1 h4
    rw [hb] at h3 ⊢
    simpa using h3
   have := dec_inj h5
   omega
theorem dec_len {n : Nat} (h : n <= 9223372036854775807) : (Lib.decDigits n).length <= 30 := by
 have := join_len [(n : Int)] (fun x hx => by rw [List.mem_singleton] at hx; subst hx; omega)
 rw [show Lib.join ([(n : Int)].map Lib.itoa) [32] = Lib.decDigits n from told_nat n] at this
 simpa using this
theorem ok_dec (n : Nat) : OkText ⟨(Lib.decDigits n).toArray⟩ := by
 have hs : (⟨(Lib.decDigits n).toArray⟩ : ByteArray).size = (Lib.decDigits n).length := by show (Lib.decDigits n).toArray.size = _; simp
 have hb : ∀ k (h : k < (Lib.decDigits n).length), bt ⟨(Lib.decDigits n).toArray⟩ k = ((Lib.decDigits n)[k]).toNat := fun k h => by
  rw [bt_at _ k (by rw [hs]; exact h)]
 obtain ⟨h1, h2⟩ := dec_shape n
 refine ⟨by rw [hs]; exact h1, fun h => ?_, fun k hk => ?_⟩
 ·rw [hs]
  rw [hb 0 h1] at h
  refine h2 ?_
  rw [List.getElem?_eq_getElem h1]
  congr 1
  exact UInt8.toNat_inj.1 (by have : (48 : UInt8).toNat = 48 := rfl; omega)
 ·rw [hs] at hk
  rw [hb k hk]
  have := (dec_val n).2 _ (List.getElem_mem hk)
  omega
theorem num_dec {n : Nat} (h : n <= 9223372036854775807) : numF ⟨(Lib.decDigits n).toArray⟩ = some n := by
 have hs : (⟨(Lib.decDigits n).toArray⟩ : ByteArray).size = (Lib.decDigits n).length := by show (Lib.decDigits n).toArray.size = _; simp
 have ho := ok_dec n
 have ht := text_of ho _ ho.pos (Nat.le_refl _)
 have hp : pre ⟨(Lib.decDigits n).toArray⟩ (⟨(Lib.decDigits n).toArray⟩ : ByteArray).size = n := by
  refine dec_inj ?_
  rw [ht]
  simp [hs]
 unfold numF
 rw [hp, if_pos ⟨ho, by rw [hs]; have := dec_len h; omega, h⟩]
theorem three_told {a b c : Nat} (ha : a <= 9223372036854775807) (hb : b <= 9223372036854775807) (hc : c <= 9223372036854775807) : threeF (toldF [(a : Int), (b : Int), (c : Int)]) = some (a, b, c) := by
 unfold threeF
 rw [told3, splitL_app _ (dec_no a (.inl (by decide))), splitL_app _ (dec_no b (.inl (by decide))), splitL_none (dec_no c (.inl (by decide)))]
 simp only [num_dec ha, num_dec hb, num_dec hc]
def Behind (ns : List Nd) (D : List Int) : Prop := ∀ k (hk : k < D.length), InD (D.take k) (nd ns (pl D[k])).l /\ InD (D.take k) (nd ns (pl D[k])).h
section
variable {ns : List Nd}
theorem post_behind (hr : Ranked ns) : ∀ (d : Nat) (h : Int) (D : List Int), Listed ns D -> Behind ns D -> hasB ns h = true -> 24 <= topOf ns h + d -> Behind ns (postF ns d h D)
 | 0, _, _, _, hB, _, _ => hB
 | d + 1, h, D, hD, hB, hh, ht => by
  unfold postF
  by_cases c : topOf ns h = 24 \/ h ∈ D
  ·rw [if_pos c]; exact hB
  ·rw [if_neg c]
   have ht24 : topOf ns h ≠ 24 := fun e => c (.inl e)
   obtain ⟨k1, k2, k3, k4⟩ := kids hr ht24
   obtain ⟨l1, l2, -⟩ := post_ok hr d _ D hD k2 (by omega)
   obtain ⟨r1, r2, -⟩ := post_ok hr d _ _ l1 k4 (by omega)
   have b1 := post_behind hr d _ D hD hB k2 (by omega)
   have b2 := post_behind hr d _ _ l1 b1 k4 (by omega)
   have hlR : InD (postF ns d (nd ns (pl h)).h (postF ns d (nd ns (pl h)).l D)) (nd ns (pl h)).l := l2.mono (fun x hx => post_mono hx)
   generalize postF ns d (nd ns (pl h)).h (postF ns d (nd ns (pl h)).l D) = R at *
   intro k hk
   rw [List.length_append, List.length_singleton] at hk
   by_cases hkR : k < R.length
   ·rw [List.take_append_of_le_length (by omega), List.getElem_append_left hkR]
    exact b2 k hkR
   ·obtain rfl : k = R.length := by omega
    rw [List.take_append_of_le_length (Nat.le_refl _), List.take_length]
    simp only [List.getElem_append_right (Nat.le_refl _), Nat.sub_self, List.getElem_singleton]
    exact ⟨hlR, r2⟩
theorem post_sub {D : List Int} (hD : Listed ns D) : ∀ (d : Nat) (y : Int) (E : List Int), InD D y -> (∀ x ∈ E, x ∈ D) -> ∀ x ∈ postF ns d y E, x ∈ D
 | 0, _, _, _, hE => hE
 | d + 1, y, E, hy, hE => by
  intro x hx
  unfold postF at hx
  split at hx
  ·exact hE x hx
  ·rename_i c
   have hyD : y ∈ D := by
    rcases hy with rfl | rfl | hy
    ·exact absurd (.inl (by simp [topOf])) c
    ·exact absurd (.inl (by simp [topOf])) c
    ·exact hy
   rcases List.mem_append.1 hx with hx | hx
   ·exact post_sub hD d _ _ (hD.kid y hyD).2 (post_sub hD d _ _ (hD.kid y hyD).1 hE) x hx
   ·rw [List.mem_singleton] at hx; subst hx; exact hyD
theorem idxOf_inj' {D : List Int} {x y : Int} (hx : x ∈ D) (h : D.idxOf x = D.idxOf y) : x = y := by
 have h1 := List.idxOf_lt_length_of_mem hx
 have e1 := List.getElem_idxOf h1
 have e2 := List.getElem_idxOf (xs := D) (x := y) (by omega)
 rw [<- e1, <- e2]
 simp only [h]
theorem node_ne {x : Int} (h : topOf ns x ≠ 24) : x ≠ 0 /\ x ≠ 1 := by have := (node_at h).1; omega
theorem numD_in {D : List Int} (hD : Listed ns D) {x : Int} (hx : x ∈ D) : numD D x = 2 + (D.idxOf x : Int) := by
 have := node_ne (hD.node x hx)
 unfold numD; rw [if_neg (by omega)]
theorem numD_inj {D : List Int} (hD : Listed ns D) {x y : Int} (hx : InD D x) (hy : InD D y) (h : numD D x = numD D y) : x = y := by
 have e0 : numD D 0 = 0 := rfl
 have e1 : numD D 1 = 1 := rfl
 rcases hx with rfl | rfl | hx
 ·rcases hy with rfl | rfl | hy
  ·rfl
  ·rw [e0, e1] at h; omega
  ·rw [e0, numD_in hD hy] at h; omega
 ·rcases hy with rfl | rfl | hy
  ·rw [e0, e1] at h; omega
  ·rfl
  ·rw [e1, numD_in hD hy] at h; omega
 ·rcases hy with rfl | rfl | hy
  ·rw [e0, numD_in hD hx] at h; omega
  ·rw [e1, numD_in hD hx] at h; omega
  ·rw [numD_in hD hx, numD_in hD hy] at h
   exact idxOf_inj' hx (by omega)
def cpN (ns : List Nd) (D : List Int) (x : Int) : Nd := ⟨(nd ns (pl x)).v, numD D (nd ns (pl x)).l, numD D (nd ns (pl x)).h⟩
theorem nd_map {P : List Int} {D : List Int} {i : Nat} (h : i < P.length) : nd (P.map (cpN ns D)) i = cpN ns D P[i] := by rw [nd_at _ i (by simpa using h)]; simp
theorem cp_top {P D : List Int} (hP : ∀ x ∈ P, topOf ns x ≠ 24) {y : Int} (hy : InD P y) : topOf (P.map (cpN ns D)) (numD P y) = topOf ns y := by
 rcases hy with rfl | rfl | hy
 ·simp [topOf, numD]
 ·simp [topOf, numD]
 ·have h1 := List.idxOf_lt_length_of_mem hy
  have hn := node_ne (hP y hy)
  have e : numD P y = 2 + (P.idxOf y : Int) := by unfold numD; rw [if_neg (by omega)]
  rw [e, topOf_at (by simpa using h1), nd_map h1, List.getElem_idxOf h1]
  exact (node_at (hP y hy)).2.2.1.symm
theorem cp_nd {D : List Int} (hD : Listed ns D) {y : Int} (hy : y ∈ D) : nd (D.map (cpN ns D)) (pl (numD D y)) = cpN ns D y := by
 have h1 := List.idxOf_lt_length_of_mem hy
 rw [numD_in hD hy, show pl (2 + (D.idxOf y : Int)) = D.idxOf y by unfold pl; omega, nd_map h1, List.getElem_idxOf h1]
theorem cp_sem {D : List Int} (hD : Listed ns D) (f : Nat -> Bool) : ∀ (d : Nat) (y : Int), InD D y -> semF d (D.map (cpN ns D)) (numD D y) f = semF d ns y f := by
 have one : ∀ y, InD D y -> decide (numD D y = 1) = decide (y = 1) := fun y hy => by
  have e1 : numD D 1 = 1 := rfl
  by_cases h : y = 1
  ·subst h; rfl
  ·rw [decide_eq_false h, decide_eq_false]
   intro h'
   rw [<- e1] at h'
   exact h (numD_inj hD hy (.inr (.inl rfl)) h')
 intro d
 induction d with
 | zero => intro y hy; exact one y hy
 | succ d ih =>
  intro y hy
  unfold semF
  rw [cp_top hD.node hy]
  by_cases ht : topOf ns y = 24
  ·rw [if_pos ht, if_pos ht]; exact one y hy
  ·rw [if_neg ht, if_neg ht]
   have hyD : y ∈ D := by
    have := node_ne ht
    rcases hy with h | h | h
    ·exact absurd h this.1
    ·exact absurd h this.2
    ·exact h
   rw [cp_nd hD hyD]
   show (if f _ = true then semF d _ (numD D (nd ns (pl y)).h) f else semF d _ (numD D (nd ns (pl y)).l) f) = _
   rw [ih _ (hD.kid y hyD).1, ih _ (hD.kid y hyD).2]
theorem cp_post {D : List Int} (hD : Listed ns D) : ∀ (d : Nat) (y : Int) (E : List Int), InD D y -> (∀ x ∈ E, x ∈ D) -> postF (D.map (cpN ns D)) d (numD D y) (E.map (numD D)) = (postF ns d y E).map (numD D) := by
 intro d
 induction d with
 | zero => intro y E _ _; rfl
 | succ d ih =>
  intro y E hy hE
  have hmem : numD D y ∈ E.map (numD D) ↔ y ∈ E := by
   constructor
   ·intro h
    obtain ⟨x, hx, e⟩ := List.mem_map.1 h
    exact numD_inj hD (.inr (.inr (hE x hx))) hy e ▸ hx
   ·exact fun h => List.mem_map_of_mem h
  unfold postF
  rw [cp_top hD.node hy]
  by_cases c : topOf ns y = 24 \/ y ∈ E
  ·rw [if_pos c, if_pos (c.imp id hmem.2)]
  ·rw [if_neg c, if_neg (fun h => c (h.imp id hmem.1))]
   have ht : topOf ns y ≠ 24 := fun e => c (.inl e)
   have hyD : y ∈ D := by
    have := node_ne ht
    rcases hy with h | h | h
    ·exact absurd h this.1
    ·exact absurd h this.2
    ·exact h
   rw [cp_nd hD hyD]
   have hk := hD.kid y hyD
   have e1 := ih (nd ns (pl y)).l E hk.1 hE
   have e2 := ih (nd ns (pl y)).h (postF ns d (nd ns (pl y)).l E) hk.2 (post_sub hD d _ E hk.1 hE)
   show postF _ d (numD D (nd ns (pl y)).h) (postF _ d (numD D (nd ns (pl y)).l) (E.map (numD D))) ++ [numD D y] = _
   rw [e1, e2, List.map_append]; rfl
theorem idx_map {α : Type} [BEq α] [LawfulBEq α] {f : α -> Int} : ∀ {l : List α} {y : α}, (∀ x ∈ l, f x = f y -> x = y) -> (l.map f).idxOf (f y) = l.idxOf y
 | [], _, _ => rfl
 | x :: l, y, h => by
  rw [List.map_cons, List.idxOf_cons, List.idxOf_cons]
  have ih := idx_map (f := f) (l := l) (y := y) (fun z hz => h z (List.mem_cons_of_mem _ hz))
  by_cases e : x = y
  ·subst e; simp
  ·have e1 : (f x == f y) = false := by simpa using fun e' => e (h x (List.mem_cons_self ..) e')
   have e2 : (x == y) = false := by simpa using e
   rw [e1, e2, ih]
theorem numD_val {L : List Int} {z : Int} (h0 : z ≠ 0) (h1 : z ≠ 1) : numD L z = 2 + (L.idxOf z : Int) := by unfold numD; rw [if_neg (by omega)]
theorem cp_num {D : List Int} (hD : Listed ns D) {y : Int} (hy : InD D y) : numD (D.map (numD D)) (numD D y) = numD D y := by
 rcases hy with rfl | rfl | hy
 ·rfl
 ·rfl
 ·have e := numD_in hD hy
  rw [numD_val (by omega) (by omega), idx_map (f := numD D) (l := D) (y := y) (fun x hx h => numD_inj hD (.inr (.inr hx)) (.inr (.inr hy)) h), e]
theorem cp_img {D : List Int} (hD : Listed ns D) (vars : Nat) {h : Int} (hh : InD D h) : imgF vars (D.map (cpN ns D)) (D.map (numD D)) (numD D h) = imgF vars ns D h := by
 have h1 : headF vars (D.map (numD D)) (numD D h) = headF vars D h := by
  unfold headF; rw [cp_num hD hh, List.length_map]
 have h2 : (D.map (numD D)).flatMap (lineF (D.map (cpN ns D)) (D.map (numD D))) = D.flatMap (lineF ns D) := by
  rw [List.flatMap_map]
  refine flat_same fun x hx => ?_
  unfold lineF
  rw [cp_nd hD hx]
  show toldF [(nd ns (pl x)).v, numD (D.map (numD D)) (numD D (nd ns (pl x)).l), numD (D.map (numD D)) (numD D (nd ns (pl x)).h)] ++ [10] = _
  rw [cp_num hD (hD.kid x hx).1, cp_num hD (hD.kid x hx).2]
 have h3 : bodyF vars (D.map (cpN ns D)) (D.map (numD D)) (numD D h) = bodyF vars ns D h := by unfold bodyF; rw [h1, h2]
 unfold imgF; rw [h3]
end
end Go.Proofs.YtcjjekhecjmaeaaGreatDoor
