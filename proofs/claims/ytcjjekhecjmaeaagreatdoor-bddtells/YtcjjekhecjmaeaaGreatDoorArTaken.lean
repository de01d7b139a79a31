/- The places that are taken; what is there behind any sweep. -/
import Derived.Test.YtcjjekhecjmaeaaGreatDoorArSweep
set_option maxHeartbeats 1000000
set_option maxRecDepth 100000
namespace Go.Proofs.YtcjjekhecjmaeaaGreatDoor
section
open Go.RowKit Go.Maps
theorem new_any (room : Int) (h0 : 0 <= room) (h1 : room <= 4000) (w : World) (B : Nat) (hB : B <= w.heap.size) :
  Calls Tryz.prog 61 #[.int .i64 room] w fun e w' => e = .returned (.tuple #[.pointer (some ⟨w.heap.size + 1, 0, none⟩), .nilIface]) /\ ArenaAt B w' (w.heap.size + 1) w.heap.size (.slice none 0 0) [] [] room 2 /\ Below w.heap.size w w' := by
 have hmm := @run_makeMap Tryz.prog
 have hE : ArenaAt B ((w.alloc (.map #[] 0)).alloc (.cells #[.int .i64 room, .slice none 0 0, .map (some w.heap.size), .int .i64 2] 126)) (w.heap.size + 1) w.heap.size (.slice none 0 0) [] [] room 2 := by
  have e1 : (w.alloc (.map #[] 0)).heap.size = w.heap.size + 1 := by simp
  have hm : ((w.alloc (.map #[] 0)).alloc (.cells #[.int .i64 room, .slice none 0 0, .map (some w.heap.size), .int .i64 2] 126)).ownsMap Tryz.prog 102 (plainElem (H := Unit) Tryz.prog 3) w.heap.size 0 (.map []) := (World.ownsMap_made w _ _ _).alloc _
  refine ⟨by simp, ?_, ?_, ?_, ?_, ?_, World.ownsRow_nil _ _ _ _, ⟨_, hm, Rep.empty⟩, by simp [Value.ownBlock], by omega, by simp [Value.ownBlock], by omega, hB⟩
  ·rw [<- e1]; simp
  ·rw [<- e1]; simp
  ·rw [<- e1]; simp
  ·rw [<- e1]; simp
  ·intro i; rw [<- e1]; simp
 have hb : Below w.heap.size w ((w.alloc (.map #[] 0)).alloc (.cells #[.int .i64 room, .slice none 0 0, .map (some w.heap.size), .int .i64 2] 126)) := ((Below.refl _ _).alloc (Nat.le_refl _) _).alloc (by simp) _
 have HE := Lib.hid hE
 clear hE
 go_enter Tryz.func61, Tryz.ntmps61
 go_wp2
 go_ret2
 exact ⟨rfl, HE.out, hb⟩
end
section
open Go.RowKit Go.Maps
structure Full (ns : List Nd) : Prop where
 ranked : Ranked ns
 occ : ∀ j, j < ns.length -> (nd ns j).v < 24
 inj : ∀ i j, i < ns.length -> j < ns.length -> nd ns i = nd ns j -> i = j
def pairsOf (ns : List Nd) : List (Nd × Int) := (List.range ns.length).map fun i => (nd ns i, 2 + (i : Int))
theorem mem_pairsOf {ns : List Nd} {p : Nd × Int} : p ∈ pairsOf ns ↔ ∃ i : Nat, i < ns.length /\ p = (nd ns i, 2 + (i : Int)) := by
 unfold pairsOf
 simp only [List.mem_map, List.mem_range]
 constructor
 ·rintro ⟨i, h, rfl⟩; exact ⟨i, h, rfl⟩
 ·rintro ⟨i, h, rfl⟩; exact ⟨i, h, rfl⟩
theorem nd_snoc (ns : List Nd) (n : Nd) (i : Nat) : nd (ns ++ [n]) i = if i < ns.length then nd ns i else if i = ns.length then n else ⟨0, 0, 0⟩ := by
 unfold nd
 simp only [List.getD_eq_getElem?_getD]
 by_cases h : i < ns.length
 ·rw [if_pos h, List.getElem?_append_left h]
 ·rw [if_neg h, List.getElem?_append_right (by omega)]
  by_cases e : i = ns.length
  ·subst e; simp
  ·rw [if_neg e, List.getElem?_eq_none (by simp; omega)]; rfl
theorem hasB_cases {ns : List Nd} {h : Int} (hh : hasB ns h = true) : h = 0 \/ h = 1 \/ topOf ns h < 24 := by
 unfold hasB at hh; simpa [or_assoc] using hh
theorem topOf_snoc {ns : List Nd} {h : Int} (n : Nd) (hh : hasB ns h = true) : topOf (ns ++ [n]) h = topOf ns h := by
 rcases hasB_cases hh with rfl | rfl | ht
 ·simp [topOf]
 ·simp [topOf]
 ·obtain ⟨b1, b2, b3⟩ := topOf_node (by omega : topOf ns h ≠ 24)
  unfold topOf
  rw [if_pos (by rw [List.length_append]; simp; omega), if_pos (by omega), nd_snoc, if_pos b2]
theorem hasB_snoc {ns : List Nd} {h : Int} (n : Nd) (hh : hasB ns h = true) : hasB (ns ++ [n]) h = true := by
 unfold hasB; rw [topOf_snoc n hh]; exact hh
theorem Full.snoc {ns : List Nd} {n : Nd} (hF : Full ns) (hn : n.Ok) (hf : Fit ns n) (hnin : n ∉ (pairsOf ns).map Prod.fst) : Full (ns ++ [n]) := by
 have key : ∀ j, j < (ns ++ [n]).length -> nd (ns ++ [n]) j = n /\ j = ns.length \/ j < ns.length /\ nd (ns ++ [n]) j = nd ns j := fun j hj => by
  rw [List.length_append, List.length_singleton] at hj
  by_cases h : j < ns.length
  ·exact .inr ⟨h, by rw [nd_snoc, if_pos h]⟩
  ·exact .inl ⟨by rw [nd_snoc, if_neg h, if_pos (by omega)], by omega⟩
 have hne : ∀ i, i < ns.length -> nd ns i ≠ n := fun i hi e => hnin (List.mem_map.2 ⟨(nd ns i, 2 + (i : Int)), mem_pairsOf.2 ⟨i, hi, rfl⟩, e⟩)
 refine ⟨⟨?_, ?_, ?_, ?_⟩, ?_, ?_⟩
 ·intro j hj
  rcases key j hj with ⟨e, -⟩ | ⟨h, e⟩
  ·rw [e]; have := hf.v0; have := hf.v1; omega
  ·rw [e]; exact hF.ranked.v0 j h
 ·intro j hj hv
  rcases key j hj with ⟨e, -⟩ | ⟨h, e⟩
  ·rw [e]; exact ⟨by rw [topOf_snoc n hf.l]; exact hf.tl, hasB_snoc n hf.l⟩
  ·rw [e] at hv ⊢
   have := hF.ranked.l j h hv
   exact ⟨by rw [topOf_snoc n this.2]; exact this.1, hasB_snoc n this.2⟩
 ·intro j hj hv
  rcases key j hj with ⟨e, -⟩ | ⟨h, e⟩
  ·rw [e]; exact ⟨by rw [topOf_snoc n hf.h]; exact hf.th, hasB_snoc n hf.h⟩
  ·rw [e] at hv ⊢
   have := hF.ranked.h j h hv
   exact ⟨by rw [topOf_snoc n this.2]; exact this.1, hasB_snoc n this.2⟩
 ·intro j hj
  rcases key j hj with ⟨e, -⟩ | ⟨h, e⟩
  ·rw [e]; exact hn
  ·rw [e]; exact hF.ranked.ok j h
 ·intro j hj
  rcases key j hj with ⟨e, -⟩ | ⟨h, e⟩
  ·rw [e]; exact hf.v1
  ·rw [e]; exact hF.occ j h
 ·intro i j hi hj he
  rcases key i hi with ⟨e1, q1⟩ | ⟨h1, e1⟩ <;> rcases key j hj with ⟨e2, q2⟩ | ⟨h2, e2⟩
  ·omega
  ·rw [e1, e2] at he; exact absurd he.symm (hne j h2)
  ·rw [e1, e2] at he; exact absurd he (hne i h1)
  ·rw [e1, e2] at he; exact hF.inj i j h1 h2 he
end
section
open Go.RowKit Go.Maps
def putN (ns : List Nd) (k : Nat) (n : Nd) : List Nd := (if k = ns.length then ns ++ [⟨24, 0, 0⟩] else ns).set k n
section
variable {ns : List Nd} {k : Nat} {n : Nd}
theorem putN_lt (hk : k <= ns.length) (i : Nat) : i < (putN ns k n).length ↔ i < ns.length \/ i = k := by
 unfold putN
 rw [List.length_set]; split
 ·rw [List.length_append, List.length_singleton]; omega
 ·omega
theorem putN_length (_hk : k <= ns.length) : (putN ns k n).length <= ns.length + 1 /\ ns.length <= (putN ns k n).length := by
 unfold putN
 rw [List.length_set]; split
 ·rw [List.length_append, List.length_singleton]; omega
 ·omega
theorem putN_at (hk : k <= ns.length) (i : Nat) (hi : i < ns.length \/ i = k) : nd (putN ns k n) i = if i = k then n else nd ns i := by
 unfold putN
 rw [nd_set _ _ _ _ (by split <;> (try simp) <;> omega)]
 by_cases e : i = k
 ·rw [if_pos e, if_pos e]
 ·rw [if_neg e, if_neg e]
  split
  ·rw [nd_snoc, if_pos (by omega)]
  ·rfl
theorem putN_node (hk : k <= ns.length) (hfree : k < ns.length -> ¬ (nd ns k).v < 24) {h : Int} (ht : topOf ns h < 24) : nd (putN ns k n) (h - 2).toNat = nd ns (h - 2).toNat /\ topOf (putN ns k n) h = topOf ns h := by
 obtain ⟨b1, b2, b3⟩ := topOf_node (by omega : topOf ns h ≠ 24)
 have hne : (h - 2).toNat ≠ k := fun e => by
  rw [b3, e] at ht; exact hfree (e ▸ b2) ht
 have h1 : nd (putN ns k n) (h - 2).toNat = nd ns (h - 2).toNat := by rw [putN_at hk _ (.inl b2), if_neg hne]
 refine ⟨h1, ?_⟩
 have hl := (putN_lt (n := n) hk (h - 2).toNat).2 (.inl b2)
 unfold topOf
 rw [if_pos (by omega), if_pos (by omega), h1]
theorem putN_top (hk : k <= ns.length) (hfree : k < ns.length -> ¬ (nd ns k).v < 24) {h : Int} (hh : hasB ns h = true) : topOf (putN ns k n) h = topOf ns h := by
 rcases hasB_cases hh with rfl | rfl | ht
 ·simp [topOf]
 ·simp [topOf]
 ·exact (putN_node hk hfree ht).2
theorem putN_has (hk : k <= ns.length) (hfree : k < ns.length -> ¬ (nd ns k).v < 24) {h : Int} (hh : hasB ns h = true) : hasB (putN ns k n) h = true := by
 unfold hasB; rw [putN_top hk hfree hh]; exact hh
theorem putN_self (hk : k <= ns.length) : topOf (putN ns k n) (2 + (k : Int)) = n.v := by
 rw [topOf_at ((putN_lt hk k).2 (.inr rfl)), putN_at hk k (.inr rfl), if_pos rfl]
theorem putN_ranked (hr : Ranked ns) (hk : k <= ns.length) (hfree : k < ns.length -> ¬ (nd ns k).v < 24) (hn : n.Ok) (hf : Fit ns n) : Ranked (putN ns k n) := by
 have key : ∀ j, j < (putN ns k n).length -> nd (putN ns k n) j = n /\ j = k \/ j < ns.length /\ nd (putN ns k n) j = nd ns j := fun j hj => by
  have hj' := (putN_lt hk j).1 hj
  by_cases e : j = k
  ·exact .inl ⟨by rw [putN_at hk j hj', if_pos e], e⟩
  ·exact .inr ⟨by omega, by rw [putN_at hk j hj', if_neg e]⟩
 refine ⟨?_, ?_, ?_, ?_⟩ <;> intro j hj <;> rcases key j hj with ⟨e, -⟩ | ⟨hl, e⟩ <;> rw [e]
 ·have := hf.v0; have := hf.v1; omega
 ·exact hr.v0 j hl
 ·intro _; rw [putN_top hk hfree hf.l]; exact ⟨hf.tl, putN_has hk hfree hf.l⟩
 ·intro hv; have := hr.l j hl hv; rw [putN_top hk hfree this.2]; exact ⟨this.1, putN_has hk hfree this.2⟩
 ·intro _; rw [putN_top hk hfree hf.h]; exact ⟨hf.th, putN_has hk hfree hf.h⟩
 ·intro hv; have := hr.h j hl hv; rw [putN_top hk hfree this.2]; exact ⟨this.1, putN_has hk hfree this.2⟩
 ·exact hn
 ·exact hr.ok j hl
theorem putN_book {L : List (Nd × Int)} (hB : Book ns L) (hk : k <= ns.length) (hfree : k < ns.length -> ¬ (nd ns k).v < 24) (hv : n.v < 24) (hnin : n ∉ L.map Prod.fst) : Book (putN ns k n) (L ++ [(n, 2 + (k : Int))]) := by
 refine ⟨fun p hp => ?_, fun i hi hvi => ?_, ?_, fun i hi hvi => ?_⟩
 ·rcases List.mem_append.1 hp with hp | hp
  ·obtain ⟨i, hi, hvi, rfl⟩ := hB.mem p hp
   have hne : i ≠ k := fun e => by subst e; exact hfree hi hvi
   refine ⟨i, (putN_lt hk i).2 (.inl hi), ?_, ?_⟩ <;> rw [putN_at hk i (.inl hi), if_neg hne]
   exact hvi
  ·rw [List.mem_singleton] at hp; subst hp
   refine ⟨k, (putN_lt hk k).2 (.inr rfl), ?_, ?_⟩ <;> rw [putN_at hk k (.inr rfl), if_pos rfl]
   exact hv
 ·have hi' := (putN_lt hk i).1 hi
  rw [putN_at hk i hi'] at hvi ⊢
  by_cases e : i = k
  ·rw [if_pos e]; subst e; simp
  ·rw [if_neg e] at hvi ⊢
   exact List.mem_append.2 (.inl (hB.all i (by omega) hvi))
 ·rw [List.map_append, List.nodup_append]
  refine ⟨hB.nodup, by simp, fun x hx y hy => ?_⟩
  simp at hy; subst hy
  exact fun e => hnin (e ▸ hx)
 ·have hi' := (putN_lt hk i).1 hi
  rw [putN_at hk i hi'] at hvi ⊢
  by_cases e : i = k
  ·rw [if_pos e] at hvi; exact absurd hv hvi
  ·rw [if_neg e] at hvi ⊢
   exact hB.free i (by omega) hvi
end
end
section
open Go.RowKit Go.Maps
theorem markF_real {ns : List Nd} (hr : Ranked ns) : ∀ (d : Nat) (h : Int) (m : List Bool), m.length = ns.length -> (∀ i, mk m i = true -> (nd ns i).v < 24) -> ∀ i, mk (markF d ns h m) i = true -> (nd ns i).v < 24
 | 0, _, _, _, hm => hm
 | d + 1, h, m, hl, hm => by
  unfold markF
  split
  ·exact hm
  ·rename_i hn
   obtain ⟨b1, b2, b3⟩ := topOf_node (not_or.1 hn).1
   have b4 := (topOf_le hr h).2
   have b5 := (not_or.1 hn).1
   refine markF_real hr d _ _ (by rw [markF_length, List.length_set, hl]) (markF_real hr d _ _ (by rw [List.length_set, hl]) ?_)
   intro i hi
   rw [mk_set _ _ _ (by omega)] at hi
   by_cases e : i = (h - 2).toNat
   ·rw [e]; omega
   ·rw [decide_eq_false e, Bool.false_or] at hi; exact hm i hi
theorem marksOf_real {ns : List Nd} (hr : Ranked ns) (fs : List Int) : ∀ i, mk (marksOf ns fs) i = true -> (nd ns i).v < 24 := by
 have : ∀ (fs : List Int) (m : List Bool), m.length = ns.length -> (∀ i, mk m i = true -> (nd ns i).v < 24) -> ∀ i, mk (fs.foldl (fun m h => markF 24 ns h m) m) i = true -> (nd ns i).v < 24 := by
  intro fs
  induction fs with
  | nil => intro m _ h; exact h
  | cons f fs ih => intro m hl h; exact ih _ (by rw [markF_length, hl]) (markF_real hr 24 f m hl h)
 exact this fs _ (by simp) (fun i h => by rw [mk_none] at h; cases h)
theorem marksOf_closed {ns : List Nd} (hr : Ranked ns) (fs : List Int) : ∀ i, i < ns.length -> mk (marksOf ns fs) i = true -> MarkedOr ns (marksOf ns fs) (nd ns i).l /\ MarkedOr ns (marksOf ns fs) (nd ns i).h := by
 have : ∀ (fs : List Int) (m : List Bool), m.length = ns.length -> (∀ i, i < ns.length -> mk m i = true -> MarkedOr ns m (nd ns i).l /\ MarkedOr ns m (nd ns i).h) ->
   ∀ i, i < ns.length -> mk (fs.foldl (fun m h => markF 24 ns h m) m) i = true -> MarkedOr ns (fs.foldl (fun m h => markF 24 ns h m) m) (nd ns i).l /\ MarkedOr ns (fs.foldl (fun m h => markF 24 ns h m) m) (nd ns i).h := by
  intro fs
  induction fs with
  | nil => intro m _ h; exact h
  | cons f fs ih =>
   intro m hl h
   refine ih _ (by rw [markF_length, hl]) (fun i hi hm => ?_)
   by_cases h0 : mk m i = true
   ·exact ⟨(h i hi h0).1.grow hl 24 f, (h i hi h0).2.grow hl 24 f⟩
   ·exact (markF_closed hr 24 f m hl (by have := (topOf_le hr f).1; omega)).2 i hi hm (by simpa using h0)
 exact this fs _ (by simp) (fun i _ h => by rw [mk_none] at h; cases h)
theorem swept_ranked_any {ns : List Nd} (hr : Ranked ns) (fs : List Int) : Ranked (swept ns (marksOf ns fs)) := by
 have hc := marksOf_closed hr fs
 have hreal := marksOf_real hr fs
 generalize marksOf ns fs = M at *
 have key : ∀ j, j < ns.length -> mk M j = true /\ nd (swept ns M) j = nd ns j \/ mk M j = false /\ nd (swept ns M) j = ⟨24, 0, 0⟩ := fun j hj => by
  rw [swept_at ns M j hj]
  by_cases h : mk M j = true
  ·exact .inl ⟨h, by rw [if_pos h]⟩
  ·exact .inr ⟨by simpa using h, by rw [if_neg h]⟩
 have child : ∀ h, MarkedOr ns M h -> hasB ns h = true -> topOf (swept ns M) h = topOf ns h /\ hasB (swept ns M) h = true := fun h hm hh => by
  have e : topOf (swept ns M) h = topOf ns h := by
   rw [swept_top]
   rcases hm with hm | hm
   ·rw [hm]; split <;> rfl
   ·rw [if_pos hm]
  exact ⟨e, by unfold hasB at *; rw [e]; exact hh⟩
 refine ⟨?_, ?_, ?_, ?_⟩ <;> intro j hj <;> rw [swept_length] at hj
 ·rcases key j hj with ⟨-, e⟩ | ⟨-, e⟩
  ·rw [e]; exact hr.v0 j hj
  ·rw [e]; simp
 ·intro hv
  rcases key j hj with ⟨hm, e⟩ | ⟨-, e⟩
  ·rw [e]
   have := hr.l j hj (hreal j hm)
   have hcl := child _ (hc j hj hm).1 this.2
   rw [hcl.1]; exact ⟨this.1, hcl.2⟩
  ·rw [e] at hv; simp at hv
 ·intro hv
  rcases key j hj with ⟨hm, e⟩ | ⟨-, e⟩
  ·rw [e]
   have := hr.h j hj (hreal j hm)
   have hcl := child _ (hc j hj hm).2 this.2
   rw [hcl.1]; exact ⟨this.1, hcl.2⟩
  ·rw [e] at hv; simp at hv
 ·rcases key j hj with ⟨-, e⟩ | ⟨-, e⟩
  ·rw [e]; exact hr.ok j hj
  ·rw [e]; exact ⟨⟨by decide, by decide⟩, ⟨by decide, by decide⟩, ⟨by decide, by decide⟩⟩
theorem swept_book {ns : List Nd} {L : List (Nd × Int)} {M : List Bool} (hB : Book ns L) : Book (swept ns M) (LTo L M ns.length) := by
 refine ⟨fun p hp => ?_, fun i hi hv => ?_, ?_, fun i hi hv => ?_⟩
 ·obtain ⟨h1, h2⟩ := List.mem_filter.1 hp
  obtain ⟨i, hi, hv, rfl⟩ := hB.mem p h1
  simp only [show (2 + (i : Int) - 2).toNat = i by omega, decide_eq_false (show ¬ ns.length <= i by omega), Bool.false_or] at h2
  refine ⟨i, by rw [swept_length]; exact hi, ?_, ?_⟩ <;> rw [swept_at ns M i hi, if_pos h2]
  exact hv
 ·rw [swept_length] at hi
  rw [swept_at ns M i hi] at hv ⊢
  by_cases hm : mk M i = true
  ·rw [if_pos hm] at hv ⊢
   exact List.mem_filter.2 ⟨hB.all i hi hv, by simp only [show (2 + (i : Int) - 2).toNat = i by omega, hm, Bool.or_true]⟩
  ·rw [if_neg hm] at hv; simp at hv
 ·exact hB.nodup.sublist (List.filter_sublist.map _)
 ·rw [swept_length] at hi
  rw [swept_at ns M i hi] at hv ⊢
  by_cases hm : mk M i = true
  ·rw [if_pos hm] at hv ⊢; exact hB.free i hi hv
  ·rw [if_neg hm]
def taken (ns : List Nd) : List Nat := (List.range ns.length).filter fun i => decide ((nd ns i).v < 24)
theorem book_len {ns : List Nd} {L : List (Nd × Int)} (hB : Book ns L) : L.length = (taken ns).length := by
 have hp : L.Perm ((taken ns).map fun i : Nat => (nd ns i, 2 + (i : Int))) := by
  refine (List.perm_ext_iff_of_nodup (List.Pairwise.of_map Prod.fst (fun a b h e => h (e ▸ rfl)) hB.nodup) (List.Pairwise.map _ (fun a b h e => h (by have := (Prod.mk.inj e).2; omega)) (List.nodup_range.filter _))).2 fun p => ?_
  rw [List.mem_map]
  constructor
  ·intro h
   obtain ⟨i, hi, hv, rfl⟩ := hB.mem p h
   exact ⟨i, List.mem_filter.2 ⟨List.mem_range.2 hi, by simpa using hv⟩, rfl⟩
  ·rintro ⟨i, hi, rfl⟩
   obtain ⟨h1, h2⟩ := List.mem_filter.1 hi
   exact hB.all i (List.mem_range.1 h1) (by simpa using h2)
 rw [hp.length_eq, List.length_map]
theorem taken_le (ns : List Nd) : (taken ns).length <= ns.length := by
 unfold taken
 exact Nat.le_trans (List.length_filter_le _ _) (by simp)
end
end Go.Proofs.YtcjjekhecjmaeaaGreatDoor
