/- What a function makes of handles: of three ends at once, else by the least variable. -/
import Derived.Test.YtbklgjmkdhinpaaGreatDoorArPut
namespace Go.Proofs.YtbklgjmkdhinpaaGreatDoor.Bd
open Go.RowKit Go.Maps
theorem markF_real {ns : List Nd} (hr : Ranked ns) : ∀ (d : Nat) (h : Int) (m : List Bool), m.length = ns.length -> (∀ i, mk m i = true -> (nd ns i).v < 24) -> ∀ i, mk (markF d ns h m) i = true -> (nd ns i).v < 24
  | 0, _, _, _, hm => hm
  | d + 1, h, m, hl, hm => by
    unfold markF
    split
    · exact hm
    · rename_i hn
      obtain ⟨b1, b2, b3⟩ := topOf_node (not_or.1 hn).1
      have b4 := (topOf_le hr h).2
      have b5 := (not_or.1 hn).1
      refine markF_real hr d _ _ (by rw [markF_length, List.length_set, hl]) (markF_real hr d _ _ (by rw [List.length_set, hl]) ?_)
      intro i hi
      rw [mk_set _ _ _ (by omega)] at hi
      by_cases e : i = (h - 2).toNat
      · rw [e]; omega
      · rw [decide_eq_false e, Bool.false_or] at hi; exact hm i hi
theorem marksOf_real {ns : List Nd} (hr : Ranked ns) (fs : List Int) : ∀ i, mk (marksOf ns fs) i = true -> (nd ns i).v < 24 := by
  have : ∀ (fs : List Int) (m : List Bool), m.length = ns.length -> (∀ i, mk m i = true -> (nd ns i).v < 24) -> ∀ i, mk (fs.foldl (fun m h => markF 24 ns h m) m) i = true -> (nd ns i).v < 24 := by
    intro fs
    induction fs with
    | nil => intro m _ h; exact h
    | cons f fs ih => intro m hl h; exact ih _ (by rw [markF_length, hl]) (markF_real hr 24 f m hl h)
  exact this fs _ (by simp) (fun i h => by rw [mk_none] at h; cases h)
theorem marksOf_closed {ns : List Nd} (hr : Ranked ns) (fs : List Int) : ∀ i, i < ns.length -> mk (marksOf ns fs) i = true -> MarkedOr ns (marksOf ns fs) (nd ns i).l /\ MarkedOr ns (marksOf ns fs) (nd ns i).h := by
  have : ∀ (fs : List Int) (m : List Bool), m.length = ns.length -> (∀ i, i < ns.length -> mk m i = true -> MarkedOr ns m (nd ns i).l /\ MarkedOr ns m (nd ns i).h) ->
      ∀ i, i < ns.length -> mk (fs.foldl (fun m h => markF 24 ns h m) m) i = true -> MarkedOr ns (fs.foldl (fun m h => markF 24 ns h m) m) (nd ns i).l /\ MarkedOr ns (fs.foldl (fun m h => markF 24 ns h m) m) (nd ns i).h := by
    intro fs
    induction fs with
    | nil => intro m _ h; exact h
    | cons f fs ih =>
      intro m hl h
      refine ih _ (by rw [markF_length, hl]) (fun i hi hm => ?_)
      by_cases h0 : mk m i = true
      · exact ⟨(h i hi h0).1.grow hl 24 f, (h i hi h0).2.grow hl 24 f⟩
      · exact (markF_closed hr 24 f m hl (by have := (topOf_le hr f).1; omega)).2 i hi hm (by simpa using h0)
  exact this fs _ (by simp) (fun i _ h => by rw [mk_none] at h; cases h)
theorem swept_ranked_any {ns : List Nd} (hr : Ranked ns) (fs : List Int) : Ranked (swept ns (marksOf ns fs)) := by
  have hc := marksOf_closed hr fs
  have hreal := marksOf_real hr fs
  generalize marksOf ns fs = M at *
  have key : ∀ j, j < ns.length -> mk M j = true /\ nd (swept ns M) j = nd ns j \/ mk M j = false /\ nd (swept ns M) j = ⟨24, 0, 0⟩ := fun j hj => by
    rw [swept_at ns M j hj]
    by_cases h : mk M j = true
    · exact .inl ⟨h, by rw [if_pos h]⟩
    · exact .inr ⟨by simpa using h, by rw [if_neg h]⟩
  have child : ∀ h, MarkedOr ns M h -> hasB ns h = true -> topOf (swept ns M) h = topOf ns h /\ hasB (swept ns M) h = true := fun h hm hh => by
    have e : topOf (swept ns M) h = topOf ns h := by
      rw [swept_top]
      rcases hm with hm | hm
      · rw [hm]; split <;> rfl
      · rw [if_pos hm]
    exact ⟨e, by unfold hasB at *; rw [e]; exact hh⟩
  refine ⟨?_, ?_, ?_, ?_⟩ <;> intro j hj <;> rw [swept_length] at hj
  · rcases key j hj with ⟨-, e⟩ | ⟨-, e⟩
    · rw [e]; exact hr.v0 j hj
    · rw [e]; simp
  · intro hv
    rcases key j hj with ⟨hm, e⟩ | ⟨-, e⟩
    · rw [e]
      have := hr.l j hj (hreal j hm)
      have hcl := child _ (hc j hj hm).1 this.2
      rw [hcl.1]; exact ⟨this.1, hcl.2⟩
    · rw [e] at hv; simp at hv
  · intro hv
    rcases key j hj with ⟨hm, e⟩ | ⟨-, e⟩
    · rw [e]
      have := hr.h j hj (hreal j hm)
      have hcl := child _ (hc j hj hm).2 this.2
      rw [hcl.1]; exact ⟨this.1, hcl.2⟩
    · rw [e] at hv; simp at hv
  · rcases key j hj with ⟨-, e⟩ | ⟨-, e⟩
    · rw [e]; exact hr.ok j hj
    · rw [e]; exact ⟨⟨by decide, by decide⟩, ⟨by decide, by decide⟩, ⟨by decide, by decide⟩⟩
theorem swept_book {ns : List Nd} {L : List (Nd × Int)} {M : List Bool} (hB : Book ns L) : Book (swept ns M) (LTo L M ns.length) := by
  refine ⟨fun p hp => ?_, fun i hi hv => ?_, ?_, fun i hi hv => ?_⟩
  · obtain ⟨h1, h2⟩ := List.mem_filter.1 hp
    obtain ⟨i, hi, hv, rfl⟩ := hB.mem p h1
    simp only [show (2 + (i : Int) - 2).toNat = i by omega, decide_eq_false (show ¬ ns.length <= i by omega), Bool.false_or] at h2
    refine ⟨i, by rw [swept_length]; exact hi, ?_, ?_⟩ <;> rw [swept_at ns M i hi, if_pos h2]
    exact hv
  · rw [swept_length] at hi
    rw [swept_at ns M i hi] at hv ⊢
    by_cases hm : mk M i = true
    · rw [if_pos hm] at hv ⊢
      exact List.mem_filter.2 ⟨hB.all i hi hv, by simp only [show (2 + (i : Int) - 2).toNat = i by omega, hm, Bool.or_true]⟩
    · rw [if_neg hm] at hv; simp at hv
  · exact hB.nodup.sublist (List.filter_sublist.map _)
  · rw [swept_length] at hi
    rw [swept_at ns M i hi] at hv ⊢
    by_cases hm : mk M i = true
    · rw [if_pos hm] at hv ⊢; exact hB.free i hi hv
    · rw [if_neg hm]
def taken (ns : List Nd) : List Nat := (List.range ns.length).filter fun i => decide ((nd ns i).v < 24)
theorem book_len {ns : List Nd} {L : List (Nd × Int)} (hB : Book ns L) : L.length = (taken ns).length := by
  have hp : L.Perm ((taken ns).map fun i : Nat => (nd ns i, 2 + (i : Int))) := by
    refine (List.perm_ext_iff_of_nodup (List.Pairwise.of_map Prod.fst (fun a b h e => h (e ▸ rfl)) hB.nodup) (List.Pairwise.map _ (fun a b h e => h (by have := (Prod.mk.inj e).2; omega)) (List.nodup_range.filter _))).2 fun p => ?_
    rw [List.mem_map]
    constructor
    · intro h
      obtain ⟨i, hi, hv, rfl⟩ := hB.mem p h
      exact ⟨i, List.mem_filter.2 ⟨List.mem_range.2 hi, by simpa using hv⟩, rfl⟩
    · rintro ⟨i, hi, rfl⟩
      obtain ⟨h1, h2⟩ := List.mem_filter.1 hi
      exact hB.all i (List.mem_range.1 h1) (by simpa using h2)
  rw [hp.length_eq, List.length_map]
theorem taken_le (ns : List Nd) : (taken ns).length <= ns.length := by
  unfold taken
  exact Nat.le_trans (List.length_filter_le _ _) (by simp)
end Go.Proofs.YtbklgjmkdhinpaaGreatDoor.Bd
namespace Go.Proofs.YtbklgjmkdhinpaaGreatDoor.Bd
open Go.RowKit Go.Maps
def pl (h : Int) : Nat := (h - 2).toNat
def semF : Nat -> List Nd -> Int -> (Nat -> Bool) -> Bool
  | 0, _, h, _ => decide (h = 1)
  | d + 1, ns, h, f =>
    if topOf ns h = 24 then decide (h = 1)
    else if f (topOf ns h).toNat then semF d ns (nd ns (pl h)).h f else semF d ns (nd ns (pl h)).l f
def sem (ns : List Nd) (h : Int) (f : Nat -> Bool) : Bool := semF 24 ns h f
structure Good (vars : Nat) (ns : List Nd) : Prop where
  ranked : Ranked ns
  once : ∀ i j, i < ns.length -> j < ns.length -> (nd ns i).v < 24 -> nd ns i = nd ns j -> i = j
  red : ∀ i, i < ns.length -> (nd ns i).v < 24 -> (nd ns i).l ≠ (nd ns i).h
  vars : ∀ i, i < ns.length -> (nd ns i).v < 24 -> (nd ns i).v < (vars : Int)
  free : ∀ i, i < ns.length -> ¬ (nd ns i).v < 24 -> nd ns i = ⟨24, 0, 0⟩
section
variable {ns : List Nd}
theorem node_at {h : Int} (ht : topOf ns h ≠ 24) : 2 <= h /\ pl h < ns.length /\ topOf ns h = (nd ns (pl h)).v /\ h = 2 + (pl h : Int) := by
  obtain ⟨h1, h2, h3⟩ := topOf_node ht
  exact ⟨h1, h2, h3, by unfold pl; omega⟩
theorem top_lt (hr : Ranked ns) {h : Int} (ht : topOf ns h ≠ 24) : topOf ns h < 24 := by
  have := (topOf_le hr h).2; omega
theorem kids (hr : Ranked ns) {h : Int} (ht : topOf ns h ≠ 24) : topOf ns h < topOf ns (nd ns (pl h)).l /\ hasB ns (nd ns (pl h)).l = true /\ topOf ns h < topOf ns (nd ns (pl h)).h /\ hasB ns (nd ns (pl h)).h = true := by
  obtain ⟨h1, h2, h3, h4⟩ := node_at ht
  have hv := top_lt hr ht
  rw [h3] at hv ⊢
  exact ⟨(hr.l _ h2 hv).1, (hr.l _ h2 hv).2, (hr.h _ h2 hv).1, (hr.h _ h2 hv).2⟩
theorem end_of {h : Int} (hh : hasB ns h = true) (ht : topOf ns h = 24) : h = 0 \/ h = 1 := by
  rcases hasB_cases hh with h1 | h1 | h1
  · exact .inl h1
  · exact .inr h1
  · omega
theorem nd_eq {a b : Nd} (h0 : a.v = b.v) (h1 : a.l = b.l) (h2 : a.h = b.h) : a = b := by cases a; cases b; cases h0; cases h1; cases h2; rfl
structure Ext (ns ns' : List Nd) : Prop where
  has : ∀ h, hasB ns h = true -> hasB ns' h = true
  top : ∀ h, hasB ns h = true -> topOf ns' h = topOf ns h
  node : ∀ h, hasB ns h = true -> topOf ns h ≠ 24 -> nd ns' (pl h) = nd ns (pl h)
theorem Ext.refl (ns : List Nd) : Ext ns ns := ⟨fun _ h => h, fun _ _ => rfl, fun _ _ _ => rfl⟩
theorem Ext.trans {a b c : List Nd} (h : Ext a b) (k : Ext b c) : Ext a c :=
  ⟨fun x hx => k.has x (h.has x hx), fun x hx => (k.top x (h.has x hx)).trans (h.top x hx), fun x hx ht => (k.node x (h.has x hx) (by rw [h.top x hx]; exact ht)).trans (h.node x hx ht)⟩
theorem semF_ext {ns' : List Nd} (hr : Ranked ns) (he : Ext ns ns') (f : Nat -> Bool) : ∀ (d : Nat) (h : Int), hasB ns h = true -> semF d ns' h f = semF d ns h f
  | 0, _, _ => rfl
  | d + 1, h, hh => by
    unfold semF
    rw [he.top h hh]
    by_cases ht : topOf ns h = 24
    · rw [if_pos ht, if_pos ht]
    · obtain ⟨-, k1, -, k2⟩ := kids hr ht
      rw [if_neg ht, if_neg ht, he.node h hh ht, semF_ext hr he f d _ k1, semF_ext hr he f d _ k2]
theorem sem_ext {ns' : List Nd} (hr : Ranked ns) (he : Ext ns ns') {h : Int} (hh : hasB ns h = true) (f : Nat -> Bool) : sem ns' h f = sem ns h f := semF_ext hr he f 24 h hh
theorem ext_put {k : Nat} {n : Nd} (hk : k <= ns.length) (hfree : k < ns.length -> ¬ (nd ns k).v < 24) (hr : Ranked ns) : Ext ns (putN ns k n) :=
  ⟨fun _ hh => putN_has hk hfree hh, fun _ hh => putN_top hk hfree hh, fun _ _ ht => (putN_node hk hfree (top_lt hr ht)).1⟩
end
end Go.Proofs.YtbklgjmkdhinpaaGreatDoor.Bd
namespace Go.Proofs.YtbklgjmkdhinpaaGreatDoor.Bd
open Go.RowKit Go.Maps
def lfree (ns : List Nd) : Nat := ns.findIdx fun n => !decide (n.v < 24)
def idx (ns : List Nd) (n : Nd) : Nat := ns.findIdx fun m => decide (m = n)
def cnt (ns : List Nd) : Nat := (ns.filter fun n => decide (n.v < 24)).length
section
variable {ns : List Nd}
theorem lfree_le (ns : List Nd) : lfree ns <= ns.length := List.findIdx_le_length
theorem lfree_taken {j : Nat} (h : j < lfree ns) : (nd ns j).v < 24 := by
  have hl : j < ns.length := Nat.lt_of_lt_of_le h (lfree_le ns)
  have := List.not_of_lt_findIdx h
  rw [nd_at ns j hl]; simpa using this
theorem lfree_free (h : lfree ns < ns.length) : ¬ (nd ns (lfree ns)).v < 24 := by
  have := List.findIdx_getElem (w := h)
  rw [nd_at ns _ h]; unfold lfree; simpa using this
theorem lfree_is {k : Nat} (hk : k <= ns.length) (ht : ∀ j, j < k -> (nd ns j).v < 24) (hf : k < ns.length -> ¬ (nd ns k).v < 24) : k = lfree ns := by
  rcases Nat.lt_trichotomy k (lfree ns) with h | h | h
  · exact absurd (lfree_taken h) (hf (Nat.lt_of_lt_of_le h (lfree_le ns)))
  · exact h
  · exact absurd (ht _ h) (lfree_free (by omega))
theorem idx_at {n : Nd} (h : idx ns n < ns.length) : nd ns (idx ns n) = n := by
  have := List.findIdx_getElem (w := h)
  rw [nd_at ns _ h]; unfold idx; simpa using this
theorem idx_none {n : Nd} (h : ¬ idx ns n < ns.length) {j : Nat} (hj : j < ns.length) : nd ns j ≠ n := by
  have : j < idx ns n := by omega
  have := List.not_of_lt_findIdx this
  rw [nd_at ns j hj]; simpa using this
def makeF (ns : List Nd) (n : Nd) : List Nd × Int := if idx ns n < ns.length then (ns, 2 + (idx ns n : Int)) else (putN ns (lfree ns) n, 2 + (lfree ns : Int))
theorem cnt_le (ns : List Nd) : cnt ns <= ns.length := List.length_filter_le _ _
theorem good_put {vars : Nat} (hg : Good vars ns) {n : Nd} (hn : n.Ok) (hf : Fit ns n) (hne : n.l ≠ n.h) (hv : n.v < (vars : Int)) (hnin : ∀ j, j < ns.length -> nd ns j ≠ n) : Good vars (putN ns (lfree ns) n) := by
  have hk := lfree_le ns
  have hfr : lfree ns < ns.length -> ¬ (nd ns (lfree ns)).v < 24 := lfree_free
  have key : ∀ j, j < (putN ns (lfree ns) n).length -> nd (putN ns (lfree ns) n) j = n /\ j = lfree ns \/ j < ns.length /\ j ≠ lfree ns /\ nd (putN ns (lfree ns) n) j = nd ns j := fun j hj => by
    have hj' := (putN_lt hk j).1 hj
    by_cases e : j = lfree ns
    · exact .inl ⟨by rw [putN_at hk j hj', if_pos e], e⟩
    · exact .inr ⟨by omega, e, by rw [putN_at hk j hj', if_neg e]⟩
  refine ⟨putN_ranked hg.ranked hk hfr hn hf, fun i j hi hj hvi e => ?_, fun i hi hvi => ?_, fun i hi hvi => ?_, fun i hi hvi => ?_⟩
  · rcases key i hi with ⟨e1, x1⟩ | ⟨l1, n1, e1⟩ <;> rcases key j hj with ⟨e2, x2⟩ | ⟨l2, n2, e2⟩
    · omega
    · rw [e1, e2] at e; exact absurd e.symm (hnin j l2)
    · rw [e1, e2] at e; exact absurd e (hnin i l1)
    · rw [e1] at hvi; rw [e1, e2] at e; exact hg.once i j l1 l2 hvi e
  · rcases key i hi with ⟨e1, -⟩ | ⟨l1, -, e1⟩ <;> rw [e1] at hvi ⊢
    · exact hne
    · exact hg.red i l1 hvi
  · rcases key i hi with ⟨e1, -⟩ | ⟨l1, -, e1⟩ <;> rw [e1] at hvi ⊢
    · exact hv
    · exact hg.vars i l1 hvi
  · rcases key i hi with ⟨e1, -⟩ | ⟨l1, -, e1⟩ <;> rw [e1] at hvi ⊢
    · exact absurd hf.v1 hvi
    · exact hg.free i l1 hvi
theorem cnt_full : ∀ (ns : List Nd), ¬ lfree ns < ns.length -> cnt ns = ns.length := fun ns h => by
  unfold cnt
  rw [List.filter_eq_self.2]
  intro a ha
  obtain ⟨i, hi, rfl⟩ := List.getElem_of_mem ha
  have := lfree_taken (ns := ns) (j := i) (by have := lfree_le ns; omega)
  rw [nd_at ns i hi] at this
  simpa using this
theorem put_tight (ns : List Nd) (n : Nd) : (putN ns (lfree ns) n).length <= max ns.length (cnt ns + 1) := by
  by_cases h : lfree ns < ns.length
  · have : (putN ns (lfree ns) n).length = ns.length := by unfold putN; rw [if_neg (by omega)]; simp
    omega
  · have h1 := cnt_full ns h
    have h2 := (putN_length (n := n) (lfree_le ns)).1
    omega
structure Made (vars : Nat) (ns : List Nd) (v l h : Int) (r : List Nd × Int) : Prop where
  good : Good vars r.1
  ext : Ext ns r.1
  has : hasB r.1 r.2 = true
  sem : ∀ f, sem r.1 r.2 f = if f v.toNat then sem ns h f else sem ns l f
  top : v <= topOf r.1 r.2
  cnt : cnt r.1 <= cnt ns + 1
  len : r.1.length <= ns.length + 1
  tight : r.1.length <= max ns.length (Go.Proofs.YtbklgjmkdhinpaaGreatDoor.Bd.cnt ns + 1)
  i64 : I64 r.2
theorem has_i64 {h : Int} (hh : hasB ns h = true) (hl : ns.length <= 1000000) : I64 h := by
  rcases hasB_cases hh with rfl | rfl | ht
  · exact ⟨by omega, by omega⟩
  · exact ⟨by omega, by omega⟩
  · obtain ⟨h1, h2, -, h4⟩ := node_at (ns := ns) (h := h) (by omega)
    exact ⟨by omega, by omega⟩
end
end Go.Proofs.YtbklgjmkdhinpaaGreatDoor.Bd
namespace Go.Proofs.YtbklgjmkdhinpaaGreatDoor.Bd
open Go.RowKit Go.Maps
def iteK (k : Nd) : Option Int := if k.v = 1 \/ k.l = k.h then some k.l else if k.v = 0 then some k.h else if k.l = 1 /\ k.h = 0 then some k.v else none
def xorK (k : Nd) : Option Int := if k.v = k.l then some 0 else if k.v = 0 then some k.l else if k.l = 0 then some k.v else none
def knownF (op : Bool) (k : Nd) : Option Int := if op = true then iteK k else xorK k
def opS (op a b c : Bool) : Bool := if op = true then (if a = true then b else c) else (a != b)
def minT (ns : List Nd) (k : Nd) : Int := min (min (topOf ns k.v) (topOf ns k.l)) (topOf ns k.h)
def look {α : Type} [DecidableEq α] (m : List (α × Int)) (k : α) : Option Int := (m.find? fun p => decide (p.1 = k)).map Prod.snd
def memoPut {α : Type} [DecidableEq α] (m : List (α × Int)) (k : α) (h : Int) : List (α × Int) := if k ∈ m.map Prod.fst then m.map (fun q => if q.1 = k then (q.1, h) else q) else m ++ [(k, h)]
section
variable {α : Type} [DecidableEq α] {m : List (α × Int)} {k : α}
theorem memoPut_mem {h : Int} {p : α × Int} (hp : p ∈ memoPut m k h) : p = (k, h) \/ p ∈ m := by
  unfold memoPut at hp
  split at hp
  · obtain ⟨q, hq, rfl⟩ := List.mem_map.1 hp
    by_cases e : q.1 = k
    · rw [if_pos e]; exact .inl (by rw [e])
    · rw [if_neg e]; exact .inr hq
  · rcases List.mem_append.1 hp with hp | hp
    · exact .inr hp
    · rw [List.mem_singleton] at hp; exact .inl hp
end
structure Has3 (ns : List Nd) (k : Nd) : Prop where
  a : hasB ns k.v = true
  b : hasB ns k.l = true
  c : hasB ns k.h = true
structure MemoOk (op : Bool) (ns : List Nd) (m : List (Nd × Int)) : Prop where
  keys : ∀ p ∈ m, Has3 ns p.1
  has : ∀ p ∈ m, hasB ns p.2 = true
  top : ∀ p ∈ m, minT ns p.1 <= topOf ns p.2
  sem : ∀ p ∈ m, ∀ f, sem ns p.2 f = opS op (sem ns p.1.v f) (sem ns p.1.l f) (sem ns p.1.h f)
section
variable {ns : List Nd} {op : Bool} {m : List (Nd × Int)} {k : Nd} {vars : Nat}
theorem minT_le (ns : List Nd) (k : Nd) : minT ns k <= topOf ns k.v /\ minT ns k <= topOf ns k.l /\ minT ns k <= topOf ns k.h := by unfold minT; omega
theorem Has3.ext {ns' : List Nd} (h : Has3 ns k) (he : Ext ns ns') : Has3 ns' k := ⟨he.has _ h.a, he.has _ h.b, he.has _ h.c⟩
theorem minT_ext {ns' : List Nd} (h : Has3 ns k) (he : Ext ns ns') : minT ns' k = minT ns k := by unfold minT; rw [he.top _ h.a, he.top _ h.b, he.top _ h.c]
theorem MemoOk.ext {ns' : List Nd} (hr : Ranked ns) (h : MemoOk op ns m) (he : Ext ns ns') : MemoOk op ns' m :=
  ⟨fun p hp => (h.keys p hp).ext he, fun p hp => he.has _ (h.has p hp), fun p hp => by rw [minT_ext (h.keys p hp) he, he.top _ (h.has p hp)]; exact h.top p hp,
   fun p hp f => by rw [sem_ext hr he (h.has p hp), sem_ext hr he (h.keys p hp).a, sem_ext hr he (h.keys p hp).b, sem_ext hr he (h.keys p hp).c]; exact h.sem p hp f⟩
theorem known_none (hr : Ranked ns) (h3 : Has3 ns k) (e : knownF op k = none) : minT ns k < 24 := by
  have tv := topOf_le hr k.v
  have tl := topOf_le hr k.l
  obtain ⟨m1, m2, m3⟩ := minT_le ns k
  unfold knownF at e
  cases op with
  | true =>
    simp only [if_true] at e
    unfold iteK at e
    split at e
    · cases e
    · split at e
      · cases e
      · rename_i c1 c2
        by_cases t : topOf ns k.v = 24
        · rcases end_of h3.a t with h | h
          · exact absurd h c2
          · exact absurd (.inl h) c1
        · omega
  | false =>
    simp only [Bool.false_eq_true, if_false] at e
    unfold xorK at e
    split at e
    · cases e
    · split at e
      · cases e
      · split at e
        · cases e
        · rename_i c1 c2 c3
          by_cases t : topOf ns k.v = 24
          · by_cases u : topOf ns k.l = 24
            · rcases end_of h3.a t with h | h <;> rcases end_of h3.b u with g | g <;> first | exact absurd h c2 | exact absurd g c3 | exact absurd (h.trans g.symm) c1
            · omega
          · omega
def rk (vars : Nat) (ns : List Nd) (k : Nd) : Nat := ((vars : Int) - minT ns k).toNat
theorem top_vars (hg : Good vars ns) {h : Int} (ht : topOf ns h ≠ 24) : topOf ns h < (vars : Int) := by
  obtain ⟨h1, h2, h3, -⟩ := node_at ht
  have := top_lt hg.ranked ht
  rw [h3] at this ⊢; exact hg.vars _ h2 this
end
end Go.Proofs.YtbklgjmkdhinpaaGreatDoor.Bd
