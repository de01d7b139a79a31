/- What a diagram is true of; the same function is the same handle. -/
import Derived.Test.YtcjjekhecjmaeaaGreatDoorArPut
namespace Go.Proofs.YtcjjekhecjmaeaaGreatDoor
section
open Go.RowKit Go.Maps
theorem markF_real {ns : List Nd} (hr : Ranked ns) : ∀ (d : Nat) (h : Int) (m : List Bool), m.length = ns.length -> (∀ i, mk m i = true -> (nd ns i).v < 24) -> ∀ i, mk (markF d ns h m) i = true -> (nd ns i).v < 24
 | 0, _, _, _, hm => hm
 | d + 1, h, m, hl, hm => by
  unfold markF
  split
  ·exact hm
  ·rename_i hn
   obtain ⟨b1, b2, b3⟩ := topOf_node (not_or.1 hn).1
   have b4 := (topOf_le hr h).2
   have b5 := (not_or.1 hn).1
   refine markF_real hr d _ _ (by rw [markF_length, List.length_set, hl]) (markF_real hr d _ _ (by rw [List.length_set, hl]) ?_)
   intro i hi
   rw [mk_set _ _ _ (by omega)] at hi
   by_cases e : i = (h - 2).toNat
   ·rw [e]; omega
   ·rw [decide_eq_false e, Bool.false_or] at hi; exact hm i hi
theorem marksOf_real {ns : List Nd} (hr : Ranked ns) (fs : List Int) : ∀ i, mk (marksOf ns fs) i = true -> (nd ns i).v < 24 := by
 have : ∀ (fs : List Int) (m : List Bool), m.length = ns.length -> (∀ i, mk m i = true -> (nd ns i).v < 24) -> ∀ i, mk (fs.foldl (fun m h => markF 24 ns h m) m) i = true -> (nd ns i).v < 24 := by
  intro fs
  induction fs with
  | nil => intro m _ h; exact h
  | cons f fs ih => intro m hl h; exact ih _ (by rw [markF_length, hl]) (markF_real hr 24 f m hl h)
 exact this fs _ (by simp) (fun i h => by rw [mk_none] at h; cases h)
theorem marksOf_closed {ns : List Nd} (hr : Ranked ns) (fs : List Int) : ∀ i, i < ns.length -> mk (marksOf ns fs) i = true -> MarkedOr ns (marksOf ns fs) (nd ns i).l /\ MarkedOr ns (marksOf ns fs) (nd ns i).h := by
 have : ∀ (fs : List Int) (m : List Bool), m.length = ns.length -> (∀ i, i < ns.length -> mk m i = true -> MarkedOr ns m (nd ns i).l /\ MarkedOr ns m (nd ns i).h) ->
   ∀ i, i < ns.length -> mk (fs.foldl (fun m h => markF 24 ns h m) m) i = true -> MarkedOr ns (fs.foldl (fun m h => markF 24 ns h m) m) (nd ns i).l /\ MarkedOr ns (fs.foldl (fun m h => markF 24 ns h m) m) (nd ns i).h := by
  intro fs
  induction fs with
  | nil => intro m _ h; exact h
  | cons f fs ih =>
   intro m hl h
   refine ih _ (by rw [markF_length, hl]) (fun i hi hm => ?_)
   by_cases h0 : mk m i = true
   ·exact ⟨(h i hi h0).1.grow hl 24 f, (h i hi h0).2.grow hl 24 f⟩
   ·exact (markF_closed hr 24 f m hl (by have := (topOf_le hr f).1; omega)).2 i hi hm (by simpa using h0)
 exact this fs _ (by simp) (fun i _ h => by rw [mk_none] at h; cases h)
theorem swept_ranked_any {ns : List Nd} (hr : Ranked ns) (fs : List Int) : Ranked (swept ns (marksOf ns fs)) := by
 have hc := marksOf_closed hr fs
 have hreal := marksOf_real hr fs
 generalize marksOf ns fs = M at *
 have key : ∀ j, j < ns.length -> mk M j = true /\ nd (swept ns M) j = nd ns j \/ mk M j = false /\ nd (swept ns M) j = ⟨24, 0, 0⟩ := fun j hj => by
  rw [swept_at ns M j hj]
  by_cases h : mk M j = true
  ·exact .inl ⟨h, by rw [if_pos h]⟩
  ·exact .inr ⟨by simpa using h, by rw [if_neg h]⟩
 have child : ∀ h, MarkedOr ns M h -> hasB ns h = true -> topOf (swept ns M) h = topOf ns h /\ hasB (swept ns M) h = true := fun h hm hh => by
  have e : topOf (swept ns M) h = topOf ns h := by
   rw [swept_top]
   rcases hm with hm | hm
   ·rw [hm]; split <;> rfl
   ·rw [if_pos hm]
  exact ⟨e, by unfold hasB at *; rw [e]; exact hh⟩
 refine ⟨?_, ?_, ?_, ?_⟩ <;> intro j hj <;> rw [swept_length] at hj
 ·rcases key j hj with ⟨-, e⟩ | ⟨-, e⟩
  ·rw [e]; exact hr.v0 j hj
  ·rw [e]; simp
 ·intro hv
  rcases key j hj with ⟨hm, e⟩ | ⟨-, e⟩
  ·rw [e]
   have := hr.l j hj (hreal j hm)
   have hcl := child _ (hc j hj hm).1 this.2
   rw [hcl.1]; exact ⟨this.1, hcl.2⟩
  ·rw [e] at hv; simp at hv
 ·intro hv
  rcases key j hj with ⟨hm, e⟩ | ⟨-, e⟩
  ·rw [e]
   have := hr.h j hj (hreal j hm)
   have hcl := child _ (hc j hj hm).2 this.2
   rw [hcl.1]; exact ⟨this.1, hcl.2⟩
  ·rw [e] at hv; simp at hv
 ·rcases key j hj with ⟨-, e⟩ | ⟨-, e⟩
  ·rw [e]; exact hr.ok j hj
  ·rw [e]; exact ⟨⟨by decide, by decide⟩, ⟨by decide, by decide⟩, ⟨by decide, by decide⟩⟩
theorem swept_book {ns : List Nd} {L : List (Nd × Int)} {M : List Bool} (hB : Book ns L) : Book (swept ns M) (LTo L M ns.length) := by
 refine ⟨fun p hp => ?_, fun i hi hv => ?_, ?_, fun i hi hv => ?_⟩
 ·obtain ⟨h1, h2⟩ := List.mem_filter.1 hp
  obtain ⟨i, hi, hv, rfl⟩ := hB.mem p h1
  simp only [show (2 + (i : Int) - 2).toNat = i by omega, decide_eq_false (show ¬ ns.length <= i by omega), Bool.false_or] at h2
  refine ⟨i, by rw [swept_length]; exact hi, ?_, ?_⟩ <;> rw [swept_at ns M i hi, if_pos h2]
  exact hv
 ·rw [swept_length] at hi
  rw [swept_at ns M i hi] at hv ⊢
  by_cases hm : mk M i = true
  ·rw [if_pos hm] at hv ⊢
   exact List.mem_filter.2 ⟨hB.all i hi hv, by simp only [show (2 + (i : Int) - 2).toNat = i by omega, hm, Bool.or_true]⟩
  ·rw [if_neg hm] at hv; simp at hv
 ·exact hB.nodup.sublist (List.filter_sublist.map _)
 ·rw [swept_length] at hi
  rw [swept_at ns M i hi] at hv ⊢
  by_cases hm : mk M i = true
  ·rw [if_pos hm] at hv ⊢; exact hB.free i hi hv
  ·rw [if_neg hm]
def taken (ns : List Nd) : List Nat := (List.range ns.length).filter fun i => decide ((nd ns i).v < 24)
theorem book_len {ns : List Nd} {L : List (Nd × Int)} (hB : Book ns L) : L.length = (taken ns).length := by
 have hp : L.Perm ((taken ns).map fun i : Nat => (nd ns i, 2 + (i : Int))) := by
  refine (List.perm_ext_iff_of_nodup (List.Pairwise.of_map Prod.fst (fun a b h e => h (e ▸ rfl)) hB.nodup) (List.Pairwise.map _ (fun a b h e => h (by have := (Prod.mk.inj e).2; omega)) (List.nodup_range.filter _))).2 fun p => ?_
  rw [List.mem_map]
  constructor
  ·intro h
   obtain ⟨i, hi, hv, rfl⟩ := hB.mem p h
   exact ⟨i, List.mem_filter.2 ⟨List.mem_range.2 hi, by simpa using hv⟩, rfl⟩
  ·rintro ⟨i, hi, rfl⟩
   obtain ⟨h1, h2⟩ := List.mem_filter.1 hi
   exact hB.all i (List.mem_range.1 h1) (by simpa using h2)
 rw [hp.length_eq, List.length_map]
theorem taken_le (ns : List Nd) : (taken ns).length <= ns.length := by
 unfold taken
 exact Nat.le_trans (List.length_filter_le _ _) (by simp)
end
section
open Go.RowKit Go.Maps
def pl (h : Int) : Nat := (h - 2).toNat
def semF : Nat -> List Nd -> Int -> (Nat -> Bool) -> Bool
 | 0, _, h, _ => decide (h = 1)
 | d + 1, ns, h, f =>
  if topOf ns h = 24 then decide (h = 1)
  else if f (topOf ns h).toNat then semF d ns (nd ns (pl h)).h f else semF d ns (nd ns (pl h)).l f
def sem (ns : List Nd) (h : Int) (f : Nat -> Bool) : Bool := semF 24 ns h f
structure Good (vars : Nat) (ns : List Nd) : Prop where
 ranked : Ranked ns
 once : ∀ i j, i < ns.length -> j < ns.length -> (nd ns i).v < 24 -> nd ns i = nd ns j -> i = j
 red : ∀ i, i < ns.length -> (nd ns i).v < 24 -> (nd ns i).l ≠ (nd ns i).h
 vars : ∀ i, i < ns.length -> (nd ns i).v < 24 -> (nd ns i).v < (vars : Int)
 free : ∀ i, i < ns.length -> ¬ (nd ns i).v < 24 -> nd ns i = ⟨24, 0, 0⟩
section
variable {ns : List Nd}
theorem node_at {h : Int} (ht : topOf ns h ≠ 24) : 2 <= h /\ pl h < ns.length /\ topOf ns h = (nd ns (pl h)).v /\ h = 2 + (pl h : Int) := by
 obtain ⟨h1, h2, h3⟩ := topOf_node ht
 exact ⟨h1, h2, h3, by unfold pl; omega⟩
theorem top_lt (hr : Ranked ns) {h : Int} (ht : topOf ns h ≠ 24) : topOf ns h < 24 := by
 have := (topOf_le hr h).2; omega
theorem kids (hr : Ranked ns) {h : Int} (ht : topOf ns h ≠ 24) : topOf ns h < topOf ns (nd ns (pl h)).l /\ hasB ns (nd ns (pl h)).l = true /\ topOf ns h < topOf ns (nd ns (pl h)).h /\ hasB ns (nd ns (pl h)).h = true := by
 obtain ⟨h1, h2, h3, h4⟩ := node_at ht
 have hv := top_lt hr ht
 rw [h3] at hv ⊢
 exact ⟨(hr.l _ h2 hv).1, (hr.l _ h2 hv).2, (hr.h _ h2 hv).1, (hr.h _ h2 hv).2⟩
theorem end_of {h : Int} (hh : hasB ns h = true) (ht : topOf ns h = 24) : h = 0 \/ h = 1 := by
 rcases hasB_cases hh with h1 | h1 | h1
 ·exact .inl h1
 ·exact .inr h1
 ·omega
theorem semF_any (hr : Ranked ns) (f : Nat -> Bool) : ∀ (d e : Nat) (h : Int), 24 <= topOf ns h + d -> 24 <= topOf ns h + e -> semF d ns h f = semF e ns h f
 | 0, 0, h, _, _ => rfl
 | 0, e + 1, h, hd, _ => by
  have := (topOf_le hr h).2
  unfold semF; rw [if_pos (by omega)]
 | d + 1, 0, h, _, he => by
  have := (topOf_le hr h).2
  unfold semF; rw [if_pos (by omega)]
 | d + 1, e + 1, h, hd, he => by
  unfold semF
  by_cases ht : topOf ns h = 24
  ·rw [if_pos ht, if_pos ht]
  ·rw [if_neg ht, if_neg ht]
   obtain ⟨k1, -, k2, -⟩ := kids hr ht
   rw [semF_any hr f d e _ (by omega) (by omega), semF_any hr f d e (nd ns (pl h)).l (by omega) (by omega)]
theorem sem_end {h : Int} (ht : topOf ns h = 24) (f : Nat -> Bool) : sem ns h f = decide (h = 1) := by
 unfold sem semF; rw [if_pos ht]
theorem sem_false (f : Nat -> Bool) : sem ns 0 f = false := by rw [sem_end (by simp [topOf])]; rfl
theorem sem_true (f : Nat -> Bool) : sem ns 1 f = true := by rw [sem_end (by simp [topOf])]; rfl
theorem sem_node (hr : Ranked ns) {h : Int} (ht : topOf ns h ≠ 24) (f : Nat -> Bool) : sem ns h f = if f (topOf ns h).toNat then sem ns (nd ns (pl h)).h f else sem ns (nd ns (pl h)).l f := by
 obtain ⟨k1, -, k2, -⟩ := kids hr ht
 have h0 := (topOf_le hr h).1
 show semF 24 ns h f = _
 unfold semF
 rw [if_neg ht, semF_any hr f 23 24 _ (by omega) (by omega), semF_any hr f 23 24 (nd ns (pl h)).l (by omega) (by omega)]
 rfl
def loS (ns : List Nd) (h v : Int) : Int := if topOf ns h = v then (nd ns (pl h)).l else h
def hiS (ns : List Nd) (h v : Int) : Int := if topOf ns h = v then (nd ns (pl h)).h else h
theorem loS_has (hr : Ranked ns) {h v : Int} (hv : v < 24) (hh : hasB ns h = true) : hasB ns (loS ns h v) = true /\ (v <= topOf ns h -> v < topOf ns (loS ns h v)) /\ topOf ns h <= topOf ns (loS ns h v) := by
 unfold loS
 by_cases e : topOf ns h = v
 ·rw [if_pos e]
  have := kids hr (h := h) (by omega)
  exact ⟨this.2.1, fun _ => by omega, by omega⟩
 ·rw [if_neg e]; exact ⟨hh, fun h => by omega, Int.le_refl _⟩
theorem hiS_has (hr : Ranked ns) {h v : Int} (hv : v < 24) (hh : hasB ns h = true) : hasB ns (hiS ns h v) = true /\ (v <= topOf ns h -> v < topOf ns (hiS ns h v)) /\ topOf ns h <= topOf ns (hiS ns h v) := by
 unfold hiS
 by_cases e : topOf ns h = v
 ·rw [if_pos e]
  have := kids hr (h := h) (by omega)
  exact ⟨this.2.2.2, fun _ => by omega, by omega⟩
 ·rw [if_neg e]; exact ⟨hh, fun h => by omega, Int.le_refl _⟩
theorem sem_sides (hr : Ranked ns) {h v : Int} (hv : v < 24) (f : Nat -> Bool) : sem ns h f = if f v.toNat then sem ns (hiS ns h v) f else sem ns (loS ns h v) f := by
 unfold loS hiS
 by_cases e : topOf ns h = v
 ·rw [if_pos e, if_pos e, sem_node hr (by omega), e]
 ·rw [if_neg e, if_neg e]; split <;> rfl
theorem semF_agree (hr : Ranked ns) {f g : Nat -> Bool} : ∀ (d : Nat) (h : Int), (∀ i : Nat, topOf ns h <= (i : Int) -> f i = g i) -> semF d ns h f = semF d ns h g
 | 0, _, _ => rfl
 | d + 1, h, hfg => by
  unfold semF
  by_cases ht : topOf ns h = 24
  ·rw [if_pos ht, if_pos ht]
  ·rw [if_neg ht, if_neg ht]
   obtain ⟨k1, -, k2, -⟩ := kids hr ht
   have h0 := (topOf_le hr h).1
   rw [hfg (topOf ns h).toNat (by omega), semF_agree hr d _ (fun i hi => hfg i (by omega)), semF_agree hr d (nd ns (pl h)).l (fun i hi => hfg i (by omega))]
theorem sem_agree (hr : Ranked ns) {f g : Nat -> Bool} {h : Int} (hfg : ∀ i : Nat, topOf ns h <= (i : Int) -> f i = g i) : sem ns h f = sem ns h g := semF_agree hr 24 h hfg
def turn (f : Nat -> Bool) (v : Nat) (b : Bool) : Nat -> Bool := fun i => if i = v then b else f i
theorem turn_ne (f : Nat -> Bool) {v i : Nat} (b : Bool) (h : i ≠ v) : turn f v b i = f i := if_neg h
theorem turn_eq (f : Nat -> Bool) (v : Nat) (b : Bool) : turn f v b v = b := if_pos rfl
theorem sides_same (hr : Ranked ns) {a b v : Int} (hv0 : 0 <= v) (hv : v < 24) (ha : hasB ns a = true) (hb : hasB ns b = true) (hta : v <= topOf ns a) (htb : v <= topOf ns b) (h : ∀ f, sem ns a f = sem ns b f) :
  (∀ f, sem ns (loS ns a v) f = sem ns (loS ns b v) f) /\ (∀ f, sem ns (hiS ns a v) f = sem ns (hiS ns b v) f) := by
 have la := (loS_has hr hv ha).2.1 hta
 have lb := (loS_has hr hv hb).2.1 htb
 have ga := (hiS_has hr hv ha).2.1 hta
 have gb := (hiS_has hr hv hb).2.1 htb
 refine ⟨fun f => ?_, fun f => ?_⟩
 ·have := h (turn f v.toNat false)
  rw [sem_sides hr hv, sem_sides (h := b) hr hv] at this
  rw [turn_eq, if_neg (by simp), if_neg (by simp), sem_agree hr (g := f) (fun i hi => turn_ne _ _ (by omega)), sem_agree (h := loS ns b v) hr (g := f) (fun i hi => turn_ne _ _ (by omega))] at this
  exact this
 ·have := h (turn f v.toNat true)
  rw [sem_sides hr hv, sem_sides (h := b) hr hv] at this
  rw [turn_eq, if_pos rfl, if_pos rfl, sem_agree hr (g := f) (fun i hi => turn_ne _ _ (by omega)), sem_agree (h := hiS ns b v) hr (g := f) (fun i hi => turn_ne _ _ (by omega))] at this
  exact this
theorem nd_eq {a b : Nd} (h0 : a.v = b.v) (h1 : a.l = b.l) (h2 : a.h = b.h) : a = b := by cases a; cases b; cases h0; cases h1; cases h2; rfl
theorem canon {vars : Nat} (hg : Good vars ns) : ∀ (d : Nat) (a b : Int), 24 <= topOf ns a + d -> 24 <= topOf ns b + d -> hasB ns a = true -> hasB ns b = true -> (∀ f, sem ns a f = sem ns b f) -> a = b
 | 0, a, b, da, db, ha, hb, h => by
  have ta := (topOf_le hg.ranked a).2
  have tb := (topOf_le hg.ranked b).2
  have := h (fun _ => false)
  rw [sem_end (by omega), sem_end (by omega)] at this
  rcases end_of ha (by omega) with rfl | rfl <;> rcases end_of hb (by omega) with rfl | rfl <;> simp at this ⊢
 | d + 1, a, b, da, db, ha, hb, h => by
  have ta := topOf_le hg.ranked a
  have tb := topOf_le hg.ranked b
  by_cases e : topOf ns a = 24 /\ topOf ns b = 24
  ·exact canon hg 0 a b (by omega) (by omega) ha hb h
  ·have hr := hg.ranked
   obtain ⟨v, hv, hva, hvb, hve⟩ : ∃ v, v < 24 /\ v <= topOf ns a /\ v <= topOf ns b /\ (v = topOf ns a \/ v = topOf ns b) := by
    rcases Int.lt_or_le (topOf ns a) (topOf ns b) with h1 | h1
    ·exact ⟨topOf ns a, by omega, by omega, by omega, .inl rfl⟩
    ·exact ⟨topOf ns b, by omega, by omega, by omega, .inr rfl⟩
   have hv0 : 0 <= v := by omega
   obtain ⟨sl, sh⟩ := sides_same hr hv0 hv ha hb hva hvb h
   have la := loS_has hr hv ha
   have lb := loS_has hr hv hb
   have ga := hiS_has hr hv ha
   have gb := hiS_has hr hv hb
   have e1 := canon hg d _ _ (by have := la.2.1 hva; omega) (by have := lb.2.1 hvb; omega) la.1 lb.1 sl
   have e2 := canon hg d _ _ (by have := ga.2.1 hva; omega) (by have := gb.2.1 hvb; omega) ga.1 gb.1 sh
   by_cases ca : topOf ns a = v
   ·obtain ⟨na1, na2, na3, na4⟩ := node_at (ns := ns) (h := a) (by omega)
    by_cases cb : topOf ns b = v
    ·obtain ⟨nb1, nb2, nb3, nb4⟩ := node_at (ns := ns) (h := b) (by omega)
     unfold loS at e1; unfold hiS at e2
     rw [if_pos ca, if_pos cb] at e1 e2
     have := hg.once (pl a) (pl b) na2 nb2 (by omega) (by
      have e0 : (nd ns (pl a)).v = (nd ns (pl b)).v := by omega
      exact nd_eq e0 e1 e2)
     rw [na4, nb4, this]
    ·unfold loS at e1; unfold hiS at e2
     rw [if_pos ca, if_neg cb] at e1 e2
     exact absurd (e1.trans e2.symm) (hg.red _ na2 (by omega))
   ·have cb : topOf ns b = v := by omega
    obtain ⟨nb1, nb2, nb3, nb4⟩ := node_at (ns := ns) (h := b) (by omega)
    unfold loS at e1; unfold hiS at e2
    rw [if_neg ca, if_pos cb] at e1 e2
    exact absurd (e1.symm.trans e2) (hg.red _ nb2 (by omega))
theorem same_handle {vars : Nat} (hg : Good vars ns) {a b : Int} (ha : hasB ns a = true) (hb : hasB ns b = true) (h : ∀ f, sem ns a f = sem ns b f) : a = b :=
 canon hg 24 a b (by have := (topOf_le hg.ranked a).1; omega) (by have := (topOf_le hg.ranked b).1; omega) ha hb h
structure Ext (ns ns' : List Nd) : Prop where
 has : ∀ h, hasB ns h = true -> hasB ns' h = true
 top : ∀ h, hasB ns h = true -> topOf ns' h = topOf ns h
 node : ∀ h, hasB ns h = true -> topOf ns h ≠ 24 -> nd ns' (pl h) = nd ns (pl h)
theorem Ext.refl (ns : List Nd) : Ext ns ns := ⟨fun _ h => h, fun _ _ => rfl, fun _ _ _ => rfl⟩
theorem Ext.trans {a b c : List Nd} (h : Ext a b) (k : Ext b c) : Ext a c :=
 ⟨fun x hx => k.has x (h.has x hx), fun x hx => (k.top x (h.has x hx)).trans (h.top x hx), fun x hx ht => (k.node x (h.has x hx) (by rw [h.top x hx]; exact ht)).trans (h.node x hx ht)⟩
theorem semF_ext {ns' : List Nd} (hr : Ranked ns) (he : Ext ns ns') (f : Nat -> Bool) : ∀ (d : Nat) (h : Int), hasB ns h = true -> semF d ns' h f = semF d ns h f
 | 0, _, _ => rfl
 | d + 1, h, hh => by
  unfold semF
  rw [he.top h hh]
  by_cases ht : topOf ns h = 24
  ·rw [if_pos ht, if_pos ht]
  ·obtain ⟨-, k1, -, k2⟩ := kids hr ht
   rw [if_neg ht, if_neg ht, he.node h hh ht, semF_ext hr he f d _ k1, semF_ext hr he f d _ k2]
theorem sem_ext {ns' : List Nd} (hr : Ranked ns) (he : Ext ns ns') {h : Int} (hh : hasB ns h = true) (f : Nat -> Bool) : sem ns' h f = sem ns h f := semF_ext hr he f 24 h hh
theorem ext_put {k : Nat} {n : Nd} (hk : k <= ns.length) (hfree : k < ns.length -> ¬ (nd ns k).v < 24) (hr : Ranked ns) : Ext ns (putN ns k n) :=
 ⟨fun _ hh => putN_has hk hfree hh, fun _ hh => putN_top hk hfree hh, fun _ _ ht => (putN_node hk hfree (top_lt hr ht)).1⟩
end
end
end Go.Proofs.YtcjjekhecjmaeaaGreatDoor
