/- What the arena and the reference have in common. -/
import Derived.Test.YtllobejhkajobaaDoorRefSweep
namespace Go.Proofs.YtllobejhkajobaaDoor
open Go.RowKit Go.Maps Go.Sort

theorem marksOf_closed {ns : List Nd} (hr : Ranked ns) (fs : List Int) : ∀ i, i < ns.length → mk (marksOf ns fs) i = true → MarkedOr ns (marksOf ns fs) (nd ns i).l ∧ MarkedOr ns (marksOf ns fs) (nd ns i).h := by
  have : ∀ (fs : List Int) (m : List Bool), m.length = ns.length → (∀ i, i < ns.length → mk m i = true → MarkedOr ns m (nd ns i).l ∧ MarkedOr ns m (nd ns i).h) →
      ∀ i, i < ns.length → mk (fs.foldl (fun m h => markF 24 ns h m) m) i = true → MarkedOr ns (fs.foldl (fun m h => markF 24 ns h m) m) (nd ns i).l ∧ MarkedOr ns (fs.foldl (fun m h => markF 24 ns h m) m) (nd ns i).h := by
    intro fs
    induction fs with
    | nil => intro m _ h; exact h
    | cons f fs ih =>
      intro m hl h
      refine ih _ (by rw [markF_length, hl]) (fun i hi hm => ?_)
      by_cases h0 : mk m i = true
      · exact ⟨(h i hi h0).1.grow hl 24 f, (h i hi h0).2.grow hl 24 f⟩
      · exact (markF_closed hr 24 f m hl (by have := (topOf_le hr f).1; omega)).2 i hi hm (by simpa using h0)
  exact this fs _ (by simp) (fun i _ h => by rw [mk_none] at h; cases h)

theorem swept_ranked_any {ns : List Nd} (hr : Ranked ns) (fs : List Int) : Ranked (swept ns (marksOf ns fs)) := by
  have hc := marksOf_closed hr fs
  have hreal := marksOf_real hr fs
  generalize marksOf ns fs = M at *
  have key : ∀ j, j < ns.length → mk M j = true ∧ nd (swept ns M) j = nd ns j ∨ mk M j = false ∧ nd (swept ns M) j = ⟨24, 0, 0⟩ := fun j hj => by
    rw [swept_at ns M j hj]
    by_cases h : mk M j = true
    · exact .inl ⟨h, by rw [if_pos h]⟩
    · exact .inr ⟨by simpa using h, by rw [if_neg h]⟩
  have child : ∀ h, MarkedOr ns M h → hasB ns h = true → topOf (swept ns M) h = topOf ns h ∧ hasB (swept ns M) h = true := fun h hm hh => by
    have e : topOf (swept ns M) h = topOf ns h := by
      rw [swept_top]
      rcases hm with hm | hm
      · rw [hm]; split <;> rfl
      · rw [if_pos hm]
    exact ⟨e, by unfold hasB at *; rw [e]; exact hh⟩
  refine ⟨?_, ?_, ?_, ?_⟩ <;> intro j hj <;> rw [swept_length] at hj
  · rcases key j hj with ⟨-, e⟩ | ⟨-, e⟩
    · rw [e]; exact hr.v0 j hj
    · rw [e]; simp
  · intro hv
    rcases key j hj with ⟨hm, e⟩ | ⟨-, e⟩
    · rw [e]
      have := hr.l j hj (hreal j hm)
      have hcl := child _ (hc j hj hm).1 this.2
      rw [hcl.1]; exact ⟨this.1, hcl.2⟩
    · rw [e] at hv; simp at hv
  · intro hv
    rcases key j hj with ⟨hm, e⟩ | ⟨-, e⟩
    · rw [e]
      have := hr.h j hj (hreal j hm)
      have hcl := child _ (hc j hj hm).2 this.2
      rw [hcl.1]; exact ⟨this.1, hcl.2⟩
    · rw [e] at hv; simp at hv
  · rcases key j hj with ⟨-, e⟩ | ⟨-, e⟩
    · rw [e]; exact hr.ok j hj
    · rw [e]; exact ⟨⟨by decide, by decide⟩, ⟨by decide, by decide⟩, ⟨by decide, by decide⟩⟩

theorem swept_book {ns : List Nd} {L : List (Nd × Int)} {M : List Bool} (hB : Book ns L) : Book (swept ns M) (LTo L M ns.length) := by
  refine ⟨fun p hp => ?_, fun i hi hv => ?_, ?_, fun i hi hv => ?_⟩
  · obtain ⟨h1, h2⟩ := List.mem_filter.1 hp
    obtain ⟨i, hi, hv, rfl⟩ := hB.mem p h1
    simp only [show (2 + (i : Int) - 2).toNat = i by omega, decide_eq_false (show ¬ ns.length ≤ i by omega), Bool.false_or] at h2
    refine ⟨i, by rw [swept_length]; exact hi, ?_, ?_⟩ <;> rw [swept_at ns M i hi, if_pos h2]
    exact hv
  · rw [swept_length] at hi
    rw [swept_at ns M i hi] at hv ⊢
    by_cases hm : mk M i = true
    · rw [if_pos hm] at hv ⊢
      exact List.mem_filter.2 ⟨hB.all i hi hv, by simp only [show (2 + (i : Int) - 2).toNat = i by omega, hm, Bool.or_true]⟩
    · rw [if_neg hm] at hv; simp at hv
  · exact hB.nodup.sublist (List.filter_sublist.map _)
  · rw [swept_length] at hi
    rw [swept_at ns M i hi] at hv ⊢
    by_cases hm : mk M i = true
    · rw [if_pos hm] at hv ⊢; exact hB.free i hi hv
    · rw [if_neg hm]

/-- The places that are taken. -/
def taken (ns : List Nd) : List Nat := (List.range ns.length).filter fun i => decide ((nd ns i).v < 24)
theorem book_len {ns : List Nd} {L : List (Nd × Int)} (hB : Book ns L) : L.length = (taken ns).length := by
  have hp : L.Perm ((taken ns).map fun i : Nat => (nd ns i, 2 + (i : Int))) := by
    refine (List.perm_ext_iff_of_nodup (List.Pairwise.of_map Prod.fst (fun a b h e => h (e ▸ rfl)) hB.nodup) (List.Pairwise.map _ (fun a b h e => h (by have := (Prod.mk.inj e).2; omega)) (List.nodup_range.filter _))).2 fun p => ?_
    rw [List.mem_map]
    constructor
    · intro h
      obtain ⟨i, hi, hv, rfl⟩ := hB.mem p h
      exact ⟨i, List.mem_filter.2 ⟨List.mem_range.2 hi, by simpa using hv⟩, rfl⟩
    · rintro ⟨i, hi, rfl⟩
      obtain ⟨h1, h2⟩ := List.mem_filter.1 hi
      exact hB.all i (List.mem_range.1 h1) (by simpa using h2)
  rw [hp.length_eq, List.length_map]
theorem rbook_len {ns : List Nd} {L : List (Int × Nd)} (hB : RBook ns L) (hn : (L.map Prod.fst).Nodup) : L.length = (taken ns).length := by
  have hp : L.Perm ((taken ns).map fun i : Nat => (2 + (i : Int), nd ns i)) := by
    refine (List.perm_ext_iff_of_nodup (List.Pairwise.of_map Prod.fst (fun a b h e => h (e ▸ rfl)) hn) (List.Pairwise.map _ (fun a b h e => h (by have := (Prod.mk.inj e).1; omega)) (List.nodup_range.filter _))).2 fun p => ?_
    rw [List.mem_map]
    constructor
    · intro h
      obtain ⟨i, hi, hv, h1, h2⟩ := (hB.mem p.1 p.2).1 h
      exact ⟨i, List.mem_filter.2 ⟨List.mem_range.2 hi, by simpa using hv⟩, by rw [← h1, ← h2]⟩
    · rintro ⟨i, hi, rfl⟩
      obtain ⟨h1, h2⟩ := List.mem_filter.1 hi
      exact (hB.mem _ _).2 ⟨i, List.mem_range.1 h1, by simpa using h2, rfl, rfl⟩
  rw [hp.length_eq, List.length_map]

set_option maxRecDepth 100000 in
set_option maxHeartbeats 1000000 in
theorem new_out (room : Int) (h : room < 0 ∨ 4000 < room) (w : World) :
    Calls Tryd.prog 4 #[.int .i64 room] w fun e w' => e = .returned (.tuple #[.pointer none, .iface 29 (.int .i64 2)]) ∧ w = w' := by
  by_cases h0 : room < 0
  · go_enter Tryd.func4, Tryd.ntmps4
    go_wp2
    go_ret2
    exact ⟨rfl, rfl⟩
  · have h1 : 4000 < room := by omega
    go_enter Tryd.func4, Tryd.ntmps4
    go_wp2
    go_ret2
    exact ⟨rfl, rfl⟩
end Go.Proofs.YtllobejhkajobaaDoor
