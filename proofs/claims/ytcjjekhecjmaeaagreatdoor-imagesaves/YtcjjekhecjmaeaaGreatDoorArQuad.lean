/- Four ints. -/
import Derived.Test.YtcjjekhecjmaeaaGreatDoorBdSem
import Derived.Test.YtcjjekhecjmaeaaGreatDoorArPairs
import Derived.Test.YtcjjekhecjmaeaaGreatDoorArBase
namespace Go.Proofs.YtcjjekhecjmaeaaGreatDoor
section
open Go.RowKit Go.Maps
theorem markF_real {ns : List Nd} (hr : Ranked ns) : ∀ (d : Nat) (h : Int) (m : List Bool), m.length = ns.length -> (∀ i, mk m i = true -> (nd ns i).v < 24) -> ∀ i, mk (markF d ns h m) i = true -> (nd ns i).v < 24
 | 0, _, _, _, hm => hm
 | d + 1, h, m, hl, hm => by
  unfold markF
  split
  ·exact hm
  ·rename_i hn
   obtain ⟨b1, b2, b3⟩ := topOf_node (not_or.1 hn).1
   have b4 := (topOf_le hr h).2
   have b5 := (not_or.1 hn).1
   refine markF_real hr d _ _ (by rw [markF_length, List.length_set, hl]) (markF_real hr d _ _ (by rw [List.length_set, hl]) ?_)
   intro i hi
   rw [mk_set _ _ _ (by omega)] at hi
   by_cases e : i = (h - 2).toNat
   ·rw [e]; omega
   ·rw [decide_eq_false e, Bool.false_or] at hi; exact hm i hi
theorem marksOf_real {ns : List Nd} (hr : Ranked ns) (fs : List Int) : ∀ i, mk (marksOf ns fs) i = true -> (nd ns i).v < 24 := by
 have : ∀ (fs : List Int) (m : List Bool), m.length = ns.length -> (∀ i, mk m i = true -> (nd ns i).v < 24) -> ∀ i, mk (fs.foldl (fun m h => markF 24 ns h m) m) i = true -> (nd ns i).v < 24 := by
  intro fs
  induction fs with
  | nil => intro m _ h; exact h
  | cons f fs ih => intro m hl h; exact ih _ (by rw [markF_length, hl]) (markF_real hr 24 f m hl h)
 exact this fs _ (by simp) (fun i h => by rw [mk_none] at h; cases h)
theorem marksOf_closed {ns : List Nd} (hr : Ranked ns) (fs : List Int) : ∀ i, i < ns.length -> mk (marksOf ns fs) i = true -> MarkedOr ns (marksOf ns fs) (nd ns i).l /\ MarkedOr ns (marksOf ns fs) (nd ns i).h := by
 have : ∀ (fs : List Int) (m : List Bool), m.length = ns.length -> (∀ i, i < ns.length -> mk m i = true -> MarkedOr ns m (nd ns i).l /\ MarkedOr ns m (nd ns i).h) ->
   ∀ i, i < ns.length -> mk (fs.foldl (fun m h => markF 24 ns h m) m) i = true -> MarkedOr ns (fs.foldl (fun m h => markF 24 ns h m) m) (nd ns i).l /\ MarkedOr ns (fs.foldl (fun m h => markF 24 ns h m) m) (nd ns i).h := by
  intro fs
  induction fs with
  | nil => intro m _ h; exact h
  | cons f fs ih =>
   intro m hl h
   refine ih _ (by rw [markF_length, hl]) (fun i hi hm => ?_)
   by_cases h0 : mk m i = true
   ·exact ⟨(h i hi h0).1.grow hl 24 f, (h i hi h0).2.grow hl 24 f⟩
   ·exact (markF_closed hr 24 f m hl (by have := (topOf_le hr f).1; omega)).2 i hi hm (by simpa using h0)
 exact this fs _ (by simp) (fun i _ h => by rw [mk_none] at h; cases h)
theorem swept_ranked_any {ns : List Nd} (hr : Ranked ns) (fs : List Int) : Ranked (swept ns (marksOf ns fs)) := by
 have hc := marksOf_closed hr fs
 have hreal := marksOf_real hr fs
 generalize marksOf ns fs = M at *
 have key : ∀ j, j < ns.length -> mk M j = true /\ nd (swept ns M) j = nd ns j \/ mk M j = false /\ nd (swept ns M) j = ⟨24, 0, 0⟩ := fun j hj => by
  rw [swept_at ns M j hj]
  by_cases h : mk M j = true
  ·exact .inl ⟨h, by rw [if_pos h]⟩
  ·exact .inr ⟨by simpa using h, by rw [if_neg h]⟩
 have child : ∀ h, MarkedOr ns M h -> hasB ns h = true -> topOf (swept ns M) h = topOf ns h /\ hasB (swept ns M) h = true := fun h hm hh => by
  have e : topOf (swept ns M) h = topOf ns h := by
   rw [swept_top]
   rcases hm with hm | hm
   ·rw [hm]; split <;> rfl
   ·rw [if_pos hm]
  exact ⟨e, by unfold hasB at *; rw [e]; exact hh⟩
 refine ⟨?_, ?_, ?_, ?_⟩ <;> intro j hj <;> rw [swept_length] at hj
 ·rcases key j hj with ⟨-, e⟩ | ⟨-, e⟩
  ·rw [e]; exact hr.v0 j hj
  ·rw [e]; simp
 ·intro hv
  rcases key j hj with ⟨hm, e⟩ | ⟨-, e⟩
  ·rw [e]
   have := hr.l j hj (hreal j hm)
   have hcl := child _ (hc j hj hm).1 this.2
   rw [hcl.1]; exact ⟨this.1, hcl.2⟩
  ·rw [e] at hv; simp at hv
 ·intro hv
  rcases key j hj with ⟨hm, e⟩ | ⟨-, e⟩
  ·rw [e]
   have := hr.h j hj (hreal j hm)
   have hcl := child _ (hc j hj hm).2 this.2
   rw [hcl.1]; exact ⟨this.1, hcl.2⟩
  ·rw [e] at hv; simp at hv
 ·rcases key j hj with ⟨-, e⟩ | ⟨-, e⟩
  ·rw [e]; exact hr.ok j hj
  ·rw [e]; exact ⟨⟨by decide, by decide⟩, ⟨by decide, by decide⟩, ⟨by decide, by decide⟩⟩
theorem swept_book {ns : List Nd} {L : List (Nd × Int)} {M : List Bool} (hB : Book ns L) : Book (swept ns M) (LTo L M ns.length) := by
 refine ⟨fun p hp => ?_, fun i hi hv => ?_, ?_, fun i hi hv => ?_⟩
 ·obtain ⟨h1, h2⟩ := List.mem_filter.1 hp
  obtain ⟨i, hi, hv, rfl⟩ := hB.mem p h1
  simp only [show (2 + (i : Int) - 2).toNat = i by omega, decide_eq_false (show ¬ ns.length <= i by omega), Bool.false_or] at h2
  refine ⟨i, by rw [swept_length]; exact hi, ?_, ?_⟩ <;> rw [swept_at ns M i hi, if_pos h2]
  exact hv
 ·rw [swept_length] at hi
  rw [swept_at ns M i hi] at hv ⊢
  by_cases hm : mk M i = true
  ·rw [if_pos hm] at hv ⊢
   exact List.mem_filter.2 ⟨hB.all i hi hv, by simp only [show (2 + (i : Int) - 2).toNat = i by omega, hm, Bool.or_true]⟩
  ·rw [if_neg hm] at hv; simp at hv
 ·exact hB.nodup.sublist (List.filter_sublist.map _)
 ·rw [swept_length] at hi
  rw [swept_at ns M i hi] at hv ⊢
  by_cases hm : mk M i = true
  ·rw [if_pos hm] at hv ⊢; exact hB.free i hi hv
  ·rw [if_neg hm]
def taken (ns : List Nd) : List Nat := (List.range ns.length).filter fun i => decide ((nd ns i).v < 24)
theorem book_len {ns : List Nd} {L : List (Nd × Int)} (hB : Book ns L) : L.length = (taken ns).length := by
 have hp : L.Perm ((taken ns).map fun i : Nat => (nd ns i, 2 + (i : Int))) := by
  refine (List.perm_ext_iff_of_nodup (List.Pairwise.of_map Prod.fst (fun a b h e => h (e ▸ rfl)) hB.nodup) (List.Pairwise.map _ (fun a b h e => h (by have := (Prod.mk.inj e).2; omega)) (List.nodup_range.filter _))).2 fun p => ?_
  rw [List.mem_map]
  constructor
  ·intro h
   obtain ⟨i, hi, hv, rfl⟩ := hB.mem p h
   exact ⟨i, List.mem_filter.2 ⟨List.mem_range.2 hi, by simpa using hv⟩, rfl⟩
  ·rintro ⟨i, hi, rfl⟩
   obtain ⟨h1, h2⟩ := List.mem_filter.1 hi
   exact hB.all i (List.mem_range.1 h1) (by simpa using h2)
 rw [hp.length_eq, List.length_map]
theorem taken_le (ns : List Nd) : (taken ns).length <= ns.length := by
 unfold taken
 exact Nat.le_trans (List.length_filter_le _ _) (by simp)
end
section
open Go.RowKit Go.Maps
def pickV (x : Int) (n : Nat) : Nat := ((x % 18446744073709551616).toNat) % n
theorem pickV_lt (x : Int) {n : Nat} (h : 0 < n) : pickV x n < n := Nat.mod_lt _ h
end
section
structure Quad where
 a : Int
 b : Int
 c : Int
 d : Int
 deriving Inhabited
end
end Go.Proofs.YtcjjekhecjmaeaaGreatDoor
