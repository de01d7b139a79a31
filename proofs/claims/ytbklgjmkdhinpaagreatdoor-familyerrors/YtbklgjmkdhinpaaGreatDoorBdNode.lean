/- A node that is made: where it lies, and what is there then. -/
import Derived.Test.YtbklgjmkdhinpaaGreatDoorArSweep
set_option maxHeartbeats 1000000
set_option maxRecDepth 100000
namespace Go.Proofs.YtbklgjmkdhinpaaGreatDoor.Bd
open Go.RowKit Go.Maps
theorem new_any (room : Int) (h0 : 0 <= room) (h1 : room <= 4000) (w : World) (B : Nat) (hB : B <= w.heap.size) :
  Calls Tryz.prog 40 #[.int .i64 room] w fun e w' => e = .returned (.tuple #[.pointer (some ⟨w.heap.size + 1, 0, none⟩), .nilIface]) /\ ArenaAt B w' (w.heap.size + 1) w.heap.size (.slice none 0 0) [] [] room 2 /\ Below w.heap.size w w' := by
 have hmm := @run_makeMap Tryz.prog
 have hE : ArenaAt B ((w.alloc (.map #[] 0)).alloc (.cells #[.int .i64 room, .slice none 0 0, .map (some w.heap.size), .int .i64 2] 119)) (w.heap.size + 1) w.heap.size (.slice none 0 0) [] [] room 2 := by
  have e1 : (w.alloc (.map #[] 0)).heap.size = w.heap.size + 1 := by simp
  have hm : ((w.alloc (.map #[] 0)).alloc (.cells #[.int .i64 room, .slice none 0 0, .map (some w.heap.size), .int .i64 2] 119)).ownsMap Tryz.prog 83 (plainElem (H := Unit) Tryz.prog 3) w.heap.size 0 (.map []) := (World.ownsMap_made w _ _ _).alloc _
  refine ⟨by simp, ?_, ?_, ?_, ?_, ?_, World.ownsRow_nil _ _ _ _, ⟨_, hm, Rep.empty⟩, by simp [Value.ownBlock], by omega, by simp [Value.ownBlock], by omega, hB⟩
  ·rw [<- e1]; simp
  ·rw [<- e1]; simp
  ·rw [<- e1]; simp
  ·rw [<- e1]; simp
  ·intro i; rw [<- e1]; simp
 have hb : Below w.heap.size w ((w.alloc (.map #[] 0)).alloc (.cells #[.int .i64 room, .slice none 0 0, .map (some w.heap.size), .int .i64 2] 119)) := ((Below.refl _ _).alloc (Nat.le_refl _) _).alloc (by simp) _
 have HE := Lib.hid hE
 clear hE
 go_enter Tryz.func40, Tryz.ntmps40
 go_wp2
 go_ret2
 exact ⟨rfl, HE.out, hb⟩
end Go.Proofs.YtbklgjmkdhinpaaGreatDoor.Bd
namespace Go.Proofs.YtbklgjmkdhinpaaGreatDoor.Bd
open Go.RowKit Go.Maps
theorem nd_snoc (ns : List Nd) (n : Nd) (i : Nat) : nd (ns ++ [n]) i = if i < ns.length then nd ns i else if i = ns.length then n else ⟨0, 0, 0⟩ := by
 unfold nd
 simp only [List.getD_eq_getElem?_getD]
 by_cases h : i < ns.length
 ·rw [if_pos h, List.getElem?_append_left h]
 ·rw [if_neg h, List.getElem?_append_right (by omega)]
  by_cases e : i = ns.length
  ·subst e; simp
  ·rw [if_neg e, List.getElem?_eq_none (by simp; omega)]; rfl
theorem hasB_cases {ns : List Nd} {h : Int} (hh : hasB ns h = true) : h = 0 \/ h = 1 \/ topOf ns h < 24 := by
 unfold hasB at hh; simpa [or_assoc] using hh
end Go.Proofs.YtbklgjmkdhinpaaGreatDoor.Bd
namespace Go.Proofs.YtbklgjmkdhinpaaGreatDoor.Bd
open Go.RowKit Go.Maps
def putN (ns : List Nd) (k : Nat) (n : Nd) : List Nd := (if k = ns.length then ns ++ [⟨24, 0, 0⟩] else ns).set k n
section
variable {ns : List Nd} {k : Nat} {n : Nd}
theorem putN_lt (hk : k <= ns.length) (i : Nat) : i < (putN ns k n).length ↔ i < ns.length \/ i = k := by
 unfold putN
 rw [List.length_set]; split
 ·rw [List.length_append, List.length_singleton]; omega
 ·omega
theorem putN_length (_hk : k <= ns.length) : (putN ns k n).length <= ns.length + 1 /\ ns.length <= (putN ns k n).length := by
 unfold putN
 rw [List.length_set]; split
 ·rw [List.length_append, List.length_singleton]; omega
 ·omega
theorem putN_at (hk : k <= ns.length) (i : Nat) (hi : i < ns.length \/ i = k) : nd (putN ns k n) i = if i = k then n else nd ns i := by
 unfold putN
 rw [nd_set _ _ _ _ (by split <;> (try simp) <;> omega)]
 by_cases e : i = k
 ·rw [if_pos e, if_pos e]
 ·rw [if_neg e, if_neg e]
  split
  ·rw [nd_snoc, if_pos (by omega)]
  ·rfl
theorem putN_node (hk : k <= ns.length) (hfree : k < ns.length -> ¬ (nd ns k).v < 24) {h : Int} (ht : topOf ns h < 24) : nd (putN ns k n) (h - 2).toNat = nd ns (h - 2).toNat /\ topOf (putN ns k n) h = topOf ns h := by
 obtain ⟨b1, b2, b3⟩ := topOf_node (by omega : topOf ns h ≠ 24)
 have hne : (h - 2).toNat ≠ k := fun e => by
  rw [b3, e] at ht; exact hfree (e ▸ b2) ht
 have h1 : nd (putN ns k n) (h - 2).toNat = nd ns (h - 2).toNat := by rw [putN_at hk _ (.inl b2), if_neg hne]
 refine ⟨h1, ?_⟩
 have hl := (putN_lt (n := n) hk (h - 2).toNat).2 (.inl b2)
 unfold topOf
 rw [if_pos (by omega), if_pos (by omega), h1]
theorem putN_top (hk : k <= ns.length) (hfree : k < ns.length -> ¬ (nd ns k).v < 24) {h : Int} (hh : hasB ns h = true) : topOf (putN ns k n) h = topOf ns h := by
 rcases hasB_cases hh with rfl | rfl | ht
 ·simp [topOf]
 ·simp [topOf]
 ·exact (putN_node hk hfree ht).2
theorem putN_has (hk : k <= ns.length) (hfree : k < ns.length -> ¬ (nd ns k).v < 24) {h : Int} (hh : hasB ns h = true) : hasB (putN ns k n) h = true := by
 unfold hasB; rw [putN_top hk hfree hh]; exact hh
theorem putN_self (hk : k <= ns.length) : topOf (putN ns k n) (2 + (k : Int)) = n.v := by
 rw [topOf_at ((putN_lt hk k).2 (.inr rfl)), putN_at hk k (.inr rfl), if_pos rfl]
theorem putN_ranked (hr : Ranked ns) (hk : k <= ns.length) (hfree : k < ns.length -> ¬ (nd ns k).v < 24) (hn : n.Ok) (hf : Fit ns n) : Ranked (putN ns k n) := by
 have key : ∀ j, j < (putN ns k n).length -> nd (putN ns k n) j = n /\ j = k \/ j < ns.length /\ nd (putN ns k n) j = nd ns j := fun j hj => by
  have hj' := (putN_lt hk j).1 hj
  by_cases e : j = k
  ·exact .inl ⟨by rw [putN_at hk j hj', if_pos e], e⟩
  ·exact .inr ⟨by omega, by rw [putN_at hk j hj', if_neg e]⟩
 refine ⟨?_, ?_, ?_, ?_⟩ <;> intro j hj <;> rcases key j hj with ⟨e, -⟩ | ⟨hl, e⟩ <;> rw [e]
 ·have := hf.v0; have := hf.v1; omega
 ·exact hr.v0 j hl
 ·intro _; rw [putN_top hk hfree hf.l]; exact ⟨hf.tl, putN_has hk hfree hf.l⟩
 ·intro hv; have := hr.l j hl hv; rw [putN_top hk hfree this.2]; exact ⟨this.1, putN_has hk hfree this.2⟩
 ·intro _; rw [putN_top hk hfree hf.h]; exact ⟨hf.th, putN_has hk hfree hf.h⟩
 ·intro hv; have := hr.h j hl hv; rw [putN_top hk hfree this.2]; exact ⟨this.1, putN_has hk hfree this.2⟩
 ·exact hn
 ·exact hr.ok j hl
theorem putN_book {L : List (Nd × Int)} (hB : Book ns L) (hk : k <= ns.length) (hfree : k < ns.length -> ¬ (nd ns k).v < 24) (hv : n.v < 24) (hnin : n ∉ L.map Prod.fst) : Book (putN ns k n) (L ++ [(n, 2 + (k : Int))]) := by
 refine ⟨fun p hp => ?_, fun i hi hvi => ?_, ?_, fun i hi hvi => ?_⟩
 ·rcases List.mem_append.1 hp with hp | hp
  ·obtain ⟨i, hi, hvi, rfl⟩ := hB.mem p hp
   have hne : i ≠ k := fun e => by subst e; exact hfree hi hvi
   refine ⟨i, (putN_lt hk i).2 (.inl hi), ?_, ?_⟩ <;> rw [putN_at hk i (.inl hi), if_neg hne]
   exact hvi
  ·rw [List.mem_singleton] at hp; subst hp
   refine ⟨k, (putN_lt hk k).2 (.inr rfl), ?_, ?_⟩ <;> rw [putN_at hk k (.inr rfl), if_pos rfl]
   exact hv
 ·have hi' := (putN_lt hk i).1 hi
  rw [putN_at hk i hi'] at hvi ⊢
  by_cases e : i = k
  ·rw [if_pos e]; subst e; simp
  ·rw [if_neg e] at hvi ⊢
   exact List.mem_append.2 (.inl (hB.all i (by omega) hvi))
 ·rw [List.map_append, List.nodup_append]
  refine ⟨hB.nodup, by simp, fun x hx y hy => ?_⟩
  simp at hy; subst hy
  exact fun e => hnin (e ▸ hx)
 ·have hi' := (putN_lt hk i).1 hi
  rw [putN_at hk i hi'] at hvi ⊢
  by_cases e : i = k
  ·rw [if_pos e] at hvi; exact absurd hv hvi
  ·rw [if_neg e] at hvi ⊢
   exact hB.free i (by omega) hvi
end
end Go.Proofs.YtbklgjmkdhinpaaGreatDoor.Bd
namespace Go.Proofs.YtbklgjmkdhinpaaGreatDoor.Bd
open Go.RowKit Go.Maps
theorem marksOf_closed {ns : List Nd} (hr : Ranked ns) (fs : List Int) : ∀ i, i < ns.length -> mk (marksOf ns fs) i = true -> MarkedOr ns (marksOf ns fs) (nd ns i).l /\ MarkedOr ns (marksOf ns fs) (nd ns i).h := by
 have : ∀ (fs : List Int) (m : List Bool), m.length = ns.length -> (∀ i, i < ns.length -> mk m i = true -> MarkedOr ns m (nd ns i).l /\ MarkedOr ns m (nd ns i).h) ->
   ∀ i, i < ns.length -> mk (fs.foldl (fun m h => markF 24 ns h m) m) i = true -> MarkedOr ns (fs.foldl (fun m h => markF 24 ns h m) m) (nd ns i).l /\ MarkedOr ns (fs.foldl (fun m h => markF 24 ns h m) m) (nd ns i).h := by
  intro fs
  induction fs with
  | nil => intro m _ h; exact h
  | cons f fs ih =>
   intro m hl h
   refine ih _ (by rw [markF_length, hl]) (fun i hi hm => ?_)
   by_cases h0 : mk m i = true
   ·exact ⟨(h i hi h0).1.grow hl 24 f, (h i hi h0).2.grow hl 24 f⟩
   ·exact (markF_closed hr 24 f m hl (by have := (topOf_le hr f).1; omega)).2 i hi hm (by simpa using h0)
 exact this fs _ (by simp) (fun i _ h => by rw [mk_none] at h; cases h)
theorem swept_book {ns : List Nd} {L : List (Nd × Int)} {M : List Bool} (hB : Book ns L) : Book (swept ns M) (LTo L M ns.length) := by
 refine ⟨fun p hp => ?_, fun i hi hv => ?_, ?_, fun i hi hv => ?_⟩
 ·obtain ⟨h1, h2⟩ := List.mem_filter.1 hp
  obtain ⟨i, hi, hv, rfl⟩ := hB.mem p h1
  simp only [show (2 + (i : Int) - 2).toNat = i by omega, decide_eq_false (show ¬ ns.length <= i by omega), Bool.false_or] at h2
  refine ⟨i, by rw [swept_length]; exact hi, ?_, ?_⟩ <;> rw [swept_at ns M i hi, if_pos h2]
  exact hv
 ·rw [swept_length] at hi
  rw [swept_at ns M i hi] at hv ⊢
  by_cases hm : mk M i = true
  ·rw [if_pos hm] at hv ⊢
   exact List.mem_filter.2 ⟨hB.all i hi hv, by simp only [show (2 + (i : Int) - 2).toNat = i by omega, hm, Bool.or_true]⟩
  ·rw [if_neg hm] at hv; simp at hv
 ·exact hB.nodup.sublist (List.filter_sublist.map _)
 ·rw [swept_length] at hi
  rw [swept_at ns M i hi] at hv ⊢
  by_cases hm : mk M i = true
  ·rw [if_pos hm] at hv ⊢; exact hB.free i hi hv
  ·rw [if_neg hm]
def taken (ns : List Nd) : List Nat := (List.range ns.length).filter fun i => decide ((nd ns i).v < 24)
theorem book_len {ns : List Nd} {L : List (Nd × Int)} (hB : Book ns L) : L.length = (taken ns).length := by
 have hp : L.Perm ((taken ns).map fun i : Nat => (nd ns i, 2 + (i : Int))) := by
  refine (List.perm_ext_iff_of_nodup (List.Pairwise.of_map Prod.fst (fun a b h e => h (e ▸ rfl)) hB.nodup) (List.Pairwise.map _ (fun a b h e => h (by have := (Prod.mk.inj e).2; omega)) (List.nodup_range.filter _))).2 fun p => ?_
  rw [List.mem_map]
  constructor
  ·intro h
   obtain ⟨i, hi, hv, rfl⟩ := hB.mem p h
   exact ⟨i, List.mem_filter.2 ⟨List.mem_range.2 hi, by simpa using hv⟩, rfl⟩
  ·rintro ⟨i, hi, rfl⟩
   obtain ⟨h1, h2⟩ := List.mem_filter.1 hi
   exact hB.all i (List.mem_range.1 h1) (by simpa using h2)
 rw [hp.length_eq, List.length_map]
theorem taken_le (ns : List Nd) : (taken ns).length <= ns.length := by
 unfold taken
 exact Nat.le_trans (List.length_filter_le _ _) (by simp)
end Go.Proofs.YtbklgjmkdhinpaaGreatDoor.Bd
namespace Go.Proofs.YtbklgjmkdhinpaaGreatDoor.Bd
open Go.RowKit Go.Maps
def pl (h : Int) : Nat := (h - 2).toNat
def semF : Nat -> List Nd -> Int -> (Nat -> Bool) -> Bool
 | 0, _, h, _ => decide (h = 1)
 | d + 1, ns, h, f =>
  if topOf ns h = 24 then decide (h = 1)
  else if f (topOf ns h).toNat then semF d ns (nd ns (pl h)).h f else semF d ns (nd ns (pl h)).l f
def sem (ns : List Nd) (h : Int) (f : Nat -> Bool) : Bool := semF 24 ns h f
structure Good (vars : Nat) (ns : List Nd) : Prop where
 ranked : Ranked ns
 once : ∀ i j, i < ns.length -> j < ns.length -> (nd ns i).v < 24 -> nd ns i = nd ns j -> i = j
 red : ∀ i, i < ns.length -> (nd ns i).v < 24 -> (nd ns i).l ≠ (nd ns i).h
 vars : ∀ i, i < ns.length -> (nd ns i).v < 24 -> (nd ns i).v < (vars : Int)
 free : ∀ i, i < ns.length -> ¬ (nd ns i).v < 24 -> nd ns i = ⟨24, 0, 0⟩
section
variable {ns : List Nd}
theorem node_at {h : Int} (ht : topOf ns h ≠ 24) : 2 <= h /\ pl h < ns.length /\ topOf ns h = (nd ns (pl h)).v /\ h = 2 + (pl h : Int) := by
 obtain ⟨h1, h2, h3⟩ := topOf_node ht
 exact ⟨h1, h2, h3, by unfold pl; omega⟩
theorem top_lt (hr : Ranked ns) {h : Int} (ht : topOf ns h ≠ 24) : topOf ns h < 24 := by
 have := (topOf_le hr h).2; omega
theorem kids (hr : Ranked ns) {h : Int} (ht : topOf ns h ≠ 24) : topOf ns h < topOf ns (nd ns (pl h)).l /\ hasB ns (nd ns (pl h)).l = true /\ topOf ns h < topOf ns (nd ns (pl h)).h /\ hasB ns (nd ns (pl h)).h = true := by
 obtain ⟨h1, h2, h3, h4⟩ := node_at ht
 have hv := top_lt hr ht
 rw [h3] at hv ⊢
 exact ⟨(hr.l _ h2 hv).1, (hr.l _ h2 hv).2, (hr.h _ h2 hv).1, (hr.h _ h2 hv).2⟩
theorem end_of {h : Int} (hh : hasB ns h = true) (ht : topOf ns h = 24) : h = 0 \/ h = 1 := by
 rcases hasB_cases hh with h1 | h1 | h1
 ·exact .inl h1
 ·exact .inr h1
 ·omega
theorem nd_eq {a b : Nd} (h0 : a.v = b.v) (h1 : a.l = b.l) (h2 : a.h = b.h) : a = b := by cases a; cases b; cases h0; cases h1; cases h2; rfl
structure Ext (ns ns' : List Nd) : Prop where
 has : ∀ h, hasB ns h = true -> hasB ns' h = true
 top : ∀ h, hasB ns h = true -> topOf ns' h = topOf ns h
 node : ∀ h, hasB ns h = true -> topOf ns h ≠ 24 -> nd ns' (pl h) = nd ns (pl h)
theorem Ext.refl (ns : List Nd) : Ext ns ns := ⟨fun _ h => h, fun _ _ => rfl, fun _ _ _ => rfl⟩
theorem Ext.trans {a b c : List Nd} (h : Ext a b) (k : Ext b c) : Ext a c :=
 ⟨fun x hx => k.has x (h.has x hx), fun x hx => (k.top x (h.has x hx)).trans (h.top x hx), fun x hx ht => (k.node x (h.has x hx) (by rw [h.top x hx]; exact ht)).trans (h.node x hx ht)⟩
theorem semF_ext {ns' : List Nd} (hr : Ranked ns) (he : Ext ns ns') (f : Nat -> Bool) : ∀ (d : Nat) (h : Int), hasB ns h = true -> semF d ns' h f = semF d ns h f
 | 0, _, _ => rfl
 | d + 1, h, hh => by
  unfold semF
  rw [he.top h hh]
  by_cases ht : topOf ns h = 24
  ·rw [if_pos ht, if_pos ht]
  ·obtain ⟨-, k1, -, k2⟩ := kids hr ht
   rw [if_neg ht, if_neg ht, he.node h hh ht, semF_ext hr he f d _ k1, semF_ext hr he f d _ k2]
theorem sem_ext {ns' : List Nd} (hr : Ranked ns) (he : Ext ns ns') {h : Int} (hh : hasB ns h = true) (f : Nat -> Bool) : sem ns' h f = sem ns h f := semF_ext hr he f 24 h hh
theorem ext_put {k : Nat} {n : Nd} (hk : k <= ns.length) (hfree : k < ns.length -> ¬ (nd ns k).v < 24) (hr : Ranked ns) : Ext ns (putN ns k n) :=
 ⟨fun _ hh => putN_has hk hfree hh, fun _ hh => putN_top hk hfree hh, fun _ _ ht => (putN_node hk hfree (top_lt hr ht)).1⟩
end
end Go.Proofs.YtbklgjmkdhinpaaGreatDoor.Bd
namespace Go.Proofs.YtbklgjmkdhinpaaGreatDoor.Bd
open Go.RowKit Go.Maps
def lfree (ns : List Nd) : Nat := ns.findIdx fun n => !decide (n.v < 24)
def idx (ns : List Nd) (n : Nd) : Nat := ns.findIdx fun m => decide (m = n)
def cnt (ns : List Nd) : Nat := (ns.filter fun n => decide (n.v < 24)).length
section
variable {ns : List Nd}
theorem lfree_le (ns : List Nd) : lfree ns <= ns.length := List.findIdx_le_length
theorem lfree_taken {j : Nat} (h : j < lfree ns) : (nd ns j).v < 24 := by
 have hl : j < ns.length := Nat.lt_of_lt_of_le h (lfree_le ns)
 have := List.not_of_lt_findIdx h
 rw [nd_at ns j hl]; simpa using this
theorem lfree_free (h : lfree ns < ns.length) : ¬ (nd ns (lfree ns)).v < 24 := by
 have := List.findIdx_getElem (w := h)
 rw [nd_at ns _ h]; unfold lfree; simpa using this
theorem lfree_is {k : Nat} (hk : k <= ns.length) (ht : ∀ j, j < k -> (nd ns j).v < 24) (hf : k < ns.length -> ¬ (nd ns k).v < 24) : k = lfree ns := by
 rcases Nat.lt_trichotomy k (lfree ns) with h | h | h
 ·exact absurd (lfree_taken h) (hf (Nat.lt_of_lt_of_le h (lfree_le ns)))
 ·exact h
 ·exact absurd (ht _ h) (lfree_free (by omega))
theorem idx_at {n : Nd} (h : idx ns n < ns.length) : nd ns (idx ns n) = n := by
 have := List.findIdx_getElem (w := h)
 rw [nd_at ns _ h]; unfold idx; simpa using this
theorem idx_none {n : Nd} (h : ¬ idx ns n < ns.length) {j : Nat} (hj : j < ns.length) : nd ns j ≠ n := by
 have : j < idx ns n := by omega
 have := List.not_of_lt_findIdx this
 rw [nd_at ns j hj]; simpa using this
def makeF (ns : List Nd) (n : Nd) : List Nd × Int := if idx ns n < ns.length then (ns, 2 + (idx ns n : Int)) else (putN ns (lfree ns) n, 2 + (lfree ns : Int))
theorem cnt_le (ns : List Nd) : cnt ns <= ns.length := List.length_filter_le _ _
theorem good_put {vars : Nat} (hg : Good vars ns) {n : Nd} (hn : n.Ok) (hf : Fit ns n) (hne : n.l ≠ n.h) (hv : n.v < (vars : Int)) (hnin : ∀ j, j < ns.length -> nd ns j ≠ n) : Good vars (putN ns (lfree ns) n) := by
 have hk := lfree_le ns
 have hfr : lfree ns < ns.length -> ¬ (nd ns (lfree ns)).v < 24 := lfree_free
 have key : ∀ j, j < (putN ns (lfree ns) n).length -> nd (putN ns (lfree ns) n) j = n /\ j = lfree ns \/ j < ns.length /\ j ≠ lfree ns /\ nd (putN ns (lfree ns) n) j = nd ns j := fun j hj => by
  have hj' := (putN_lt hk j).1 hj
  by_cases e : j = lfree ns
  ·exact .inl ⟨by rw [putN_at hk j hj', if_pos e], e⟩
  ·exact .inr ⟨by omega, e, by rw [putN_at hk j hj', if_neg e]⟩
 refine ⟨putN_ranked hg.ranked hk hfr hn hf, fun i j hi hj hvi e => ?_, fun i hi hvi => ?_, fun i hi hvi => ?_, fun i hi hvi => ?_⟩
 ·rcases key i hi with ⟨e1, x1⟩ | ⟨l1, n1, e1⟩ <;> rcases key j hj with ⟨e2, x2⟩ | ⟨l2, n2, e2⟩
  ·omega
  ·rw [e1, e2] at e; exact absurd e.symm (hnin j l2)
  ·rw [e1, e2] at e; exact absurd e (hnin i l1)
  ·rw [e1] at hvi; rw [e1, e2] at e; exact hg.once i j l1 l2 hvi e
 ·rcases key i hi with ⟨e1, -⟩ | ⟨l1, -, e1⟩ <;> rw [e1] at hvi ⊢
  ·exact hne
  ·exact hg.red i l1 hvi
 ·rcases key i hi with ⟨e1, -⟩ | ⟨l1, -, e1⟩ <;> rw [e1] at hvi ⊢
  ·exact hv
  ·exact hg.vars i l1 hvi
 ·rcases key i hi with ⟨e1, -⟩ | ⟨l1, -, e1⟩ <;> rw [e1] at hvi ⊢
  ·exact absurd hf.v1 hvi
  ·exact hg.free i l1 hvi
theorem cnt_full : ∀ (ns : List Nd), ¬ lfree ns < ns.length -> cnt ns = ns.length := fun ns h => by
 unfold cnt
 rw [List.filter_eq_self.2]
 intro a ha
 obtain ⟨i, hi, rfl⟩ := List.getElem_of_mem ha
 have := lfree_taken (ns := ns) (j := i) (by have := lfree_le ns; omega)
 rw [nd_at ns i hi] at this
 simpa using this
theorem put_tight (ns : List Nd) (n : Nd) : (putN ns (lfree ns) n).length <= max ns.length (cnt ns + 1) := by
 by_cases h : lfree ns < ns.length
 ·have : (putN ns (lfree ns) n).length = ns.length := by unfold putN; rw [if_neg (by omega)]; simp
  omega
 ·have h1 := cnt_full ns h
  have h2 := (putN_length (n := n) (lfree_le ns)).1
  omega
structure Made (vars : Nat) (ns : List Nd) (v l h : Int) (r : List Nd × Int) : Prop where
 good : Good vars r.1
 ext : Ext ns r.1
 has : hasB r.1 r.2 = true
 sem : ∀ f, sem r.1 r.2 f = if f v.toNat then sem ns h f else sem ns l f
 top : v <= topOf r.1 r.2
 cnt : cnt r.1 <= cnt ns + 1
 len : r.1.length <= ns.length + 1
 tight : r.1.length <= max ns.length (Go.Proofs.YtbklgjmkdhinpaaGreatDoor.Bd.cnt ns + 1)
 i64 : I64 r.2
theorem has_i64 {h : Int} (hh : hasB ns h = true) (hl : ns.length <= 1000000) : I64 h := by
 rcases hasB_cases hh with rfl | rfl | ht
 ·exact ⟨by omega, by omega⟩
 ·exact ⟨by omega, by omega⟩
 ·obtain ⟨h1, h2, -, h4⟩ := node_at (ns := ns) (h := h) (by omega)
  exact ⟨by omega, by omega⟩
end
end Go.Proofs.YtbklgjmkdhinpaaGreatDoor.Bd
