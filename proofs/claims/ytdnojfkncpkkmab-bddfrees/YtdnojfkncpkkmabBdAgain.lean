/- What is made again behind a sweep that kept some: the same handles. -/
import Derived.Test.YtdnojfkncpkkmabBdViewF
import Derived.Test.YtdnojfkncpkkmabBdFree
namespace Go.Proofs.Ytdnojfkncpkkmab
open Go.RowKit Go.Maps

section
variable {vars : Nat} {ns : List Nd}

theorem ask_known {op : Bool} {k : Nd} {e : Int} (h : knownF op k = some e) (ns : List Nd) : askF op ns k = (ns, e) := by
  unfold askF makesF; rw [h]
theorem without_end {J : Join} {e v : Int} (he : topOf ns e = 24) (hv : v < 24) : withoutF J ns e v = (ns, e) := by
  unfold withoutF joinedF; rw [he, if_pos hv]
theorem top_of_end {e : Int} (he : e = 0 ∨ e = 1) (ns : List Nd) : topOf ns e = 24 := by
  rcases he with rfl | rfl
  · exact top_end0 ns
  · exact top_end1 ns
theorem ends_at (x : Int) : alAt [0, 1] x = 0 ∨ alAt [0, 1] x = 1 := by
  have h : pickV x 2 < 2 := pickV_lt x (by omega)
  unfold alAt
  show [(0 : Int), 1].getD (pickV x 2) 0 = 0 ∨ [(0 : Int), 1].getD (pickV x 2) 0 = 1
  obtain e | e : pickV x 2 = 0 ∨ pickV x 2 = 1 := by omega
  · rw [e]; exact Or.inl rfl
  · rw [e]; exact Or.inr rfl
theorem known_ends (op : Bool) {x y z : Int} (hx : x = 0 ∨ x = 1) (hy : y = 0 ∨ y = 1) (hz : z = 0 ∨ z = 1) (ho : op = true ∨ z = 0) : ∃ e, (e = 0 ∨ e = 1) ∧ knownF op ⟨x, y, z⟩ = some e := by
  rcases hx with rfl | rfl <;> rcases hy with rfl | rfl <;> rcases hz with rfl | rfl <;> cases op <;>
    first
    | exact ⟨0, Or.inl rfl, by decide⟩
    | exact ⟨1, Or.inr rfl, by decide⟩
    | simp at ho

/-- Of ends, a step that is no literal makes an end, and no node. -/
theorem step_ends (hv0 : 0 < vars) (hv : vars ≤ 24) (q : Quad) (hq : pickV q.a 9 ≠ 0) : ∃ e, (e = 0 ∨ e = 1) ∧ ∀ ns, stepF vars ns [0, 1] q = (ns, e) := by
  have pc := pickV_lt q.c hv0
  have hb := ends_at q.b
  have hc := ends_at q.c
  have hd := ends_at q.d
  have z : (0 : Int) = 0 ∨ (0 : Int) = 1 := Or.inl rfl
  have o : (1 : Int) = 0 ∨ (1 : Int) = 1 := Or.inr rfl
  have ask : ∀ (op : Bool) (k : Nd), (∃ e, (e = 0 ∨ e = 1) ∧ knownF op k = some e) → ∃ e, (e = 0 ∨ e = 1) ∧ ∀ ns, askF op ns k = (ns, e) := fun op k ⟨e, h1, h2⟩ => ⟨e, h1, ask_known h2⟩
  unfold stepF
  split
  · rename_i h; exact absurd h hq
  · exact ask _ _ (known_ends true hb z o (Or.inl rfl))
  · exact ask _ _ (known_ends true hb hc z (Or.inl rfl))
  · exact ask _ _ (known_ends true hb o hc (Or.inl rfl))
  · exact ask _ _ (known_ends false hb hc z (Or.inr rfl))
  · exact ask _ _ (known_ends true hb hc hd (Or.inl rfl))
  · exact ⟨_, hb, fun ns => without_end (top_of_end hb ns) (by omega)⟩
  · exact ⟨_, hb, fun ns => without_end (top_of_end hb ns) (by omega)⟩
  · exact ⟨_, hb, fun ns => without_end (top_of_end hb ns) (by omega)⟩

theorem mark_end {e : Int} (he : e = 0 ∨ e = 1) (d : Nat) (ns : List Nd) (m : List Bool) : markF d ns e m = m := by
  cases d with
  | zero => rfl
  | succ d => unfold markF; rw [if_pos (Or.inl (top_of_end he ns))]
theorem marks3 (ns : List Nd) (x y z : Int) : marksOf ns [x, y, z] = markF 24 ns z (markF 24 ns y (markF 24 ns x (List.replicate ns.length false))) := by
  have key : ∀ (d : Nat) (m : List Bool), [x, y, z].foldl (fun m h => markF d ns h m) m = markF d ns z (markF d ns y (markF d ns x m)) := fun _ _ => rfl
  unfold marksOf; exact key 24 _
theorem mark_in {d : Nat} {h : Int} {m : List Bool} (hc : ¬ (topOf ns h = 24 ∨ mk m (h - 2).toNat = true)) : markF (d + 1) ns h m = markF d ns (nd ns (h - 2).toNat).h (markF d ns (nd ns (h - 2).toNat).l (m.set (h - 2).toNat true)) := by
  rw [markF, if_neg hc]
theorem marks_ends {e : Int} (he : e = 0 ∨ e = 1) (ns : List Nd) (i : Nat) : mk (marksOf ns [0, 1, e]) i = false := by
  rw [marks3]
  rw [mark_end (Or.inl rfl), mark_end (Or.inr rfl), mark_end he, mk_none]

/-- A node may lie at place 0 alone, and nothing else lies there. -/
structure Lone (ns : List Nd) (n : Nd) : Prop where
  only : ∀ i, view ns i = n → i = 0
  here : view ns 0 = n ∨ ¬ (view ns 0).v < 24

theorem lone_nil {n : Nd} (hn : n.v < 24) : Lone [] n :=
  ⟨fun i h => by rw [view_free (by simp)] at h; rw [← h] at hn; simp at hn, Or.inr (by rw [view_free (by simp)]; simp)⟩
theorem Lone.make {n : Nd} (hn : n.v < 24) (h : Lone ns n) : (makeF ns n).2 = 2 ∧ view (makeF ns n).1 0 = n := by
  unfold makeF
  by_cases c : idx ns n < ns.length
  · rw [if_pos c]
    have e : view ns (idx ns n) = n := by rw [view_at c]; exact idx_at c
    have e0 := h.only _ e
    rw [e0] at e
    exact ⟨by show (2 + (idx ns n : Int)) = 2; rw [e0]; rfl, e⟩
  · rw [if_neg c]
    have h1 : view ns 0 ≠ n := fun e => by
      obtain ⟨l, e'⟩ := idx_view hn e
      exact idx_none c l e'
    have h2 : ¬ (view ns 0).v < 24 := h.here.resolve_left h1
    have h3 : lfree ns = 0 := by
      by_cases z : lfree ns = 0
      · exact z
      · exact absurd ((lfree_view ns).2 0 (by omega)) h2
    refine ⟨by show (2 + (lfree ns : Int)) = 2; rw [h3]; rfl, ?_⟩
    show view (putN ns (lfree ns) n) 0 = n
    rw [view_put (lfree_le ns), h3, if_pos rfl]
theorem marks_lone {n : Nd} (hn : n.v < 24) (hl : n.l = 0 ∨ n.l = 1) (hh : n.h = 0 ∨ n.h = 1) (h : view ns 0 = n) (i : Nat) : mk (marksOf ns [0, 1, 2]) i = decide (i = 0) := by
  obtain ⟨l0, e0⟩ := idx_view hn h
  rw [marks3]
  rw [mark_end (Or.inl rfl), mark_end (Or.inr rfl)]
  have ht : topOf ns 2 = n.v := by rw [top_view, if_pos (by omega)]; show (view ns 0).v = _; rw [h]
  have e1 : nd ns ((2 : Int) - 2).toNat = n := e0
  have hc : ¬ (topOf ns 2 = 24 ∨ mk (List.replicate ns.length false) ((2 : Int) - 2).toNat = true) := by
    rw [mk_none, ht]
    intro hc
    rcases hc with hc | hc
    · omega
    · cases hc
  rw [mark_in (d := 23) hc, e1, mark_end hl, mark_end hh, mk_set _ _ _ (by rw [List.length_replicate]; exact l0), mk_none]
  simp

/-- The first round: the same as from nothing. -/
theorem first_view (hv0 : 0 < vars) (hv : vars ≤ 24) (q : Quad) (h : pickV q.a 9 = 0 → Lone ns (if oddB q.c = true then ⟨(pickV q.b vars : Int), 0, 1⟩ else ⟨(pickV q.b vars : Int), 1, 0⟩)) : Vw (roundF vars ([], [0, 1]) q).1 (roundF vars (ns, [0, 1]) q).1 ∧ (roundF vars ([], [0, 1]) q).2 = (roundF vars (ns, [0, 1]) q).2 := by
  by_cases c : pickV q.a 9 = 0
  · have h' := h c
    have pb := pickV_lt q.b hv0
    have hs : ∀ ns, stepF vars ns [0, 1] q = makeF ns (if oddB q.c = true then ⟨(pickV q.b vars : Int), 0, 1⟩ else ⟨(pickV q.b vars : Int), 1, 0⟩) := fun ns => by
      unfold stepF; rw [c]; simp only; unfold litF nodeF
      cases oddB q.c <;> simp
    have hn : (if oddB q.c = true then (⟨(pickV q.b vars : Int), 0, 1⟩ : Nd) else ⟨(pickV q.b vars : Int), 1, 0⟩).v < 24 := by split <;> (show ((pickV q.b vars : Nat) : Int) < 24; omega)
    have hl : (if oddB q.c = true then (⟨(pickV q.b vars : Int), 0, 1⟩ : Nd) else ⟨(pickV q.b vars : Int), 1, 0⟩).l = 0 ∨ (if oddB q.c = true then (⟨(pickV q.b vars : Int), 0, 1⟩ : Nd) else ⟨(pickV q.b vars : Int), 1, 0⟩).l = 1 := by split <;> simp
    have hh : (if oddB q.c = true then (⟨(pickV q.b vars : Int), 0, 1⟩ : Nd) else ⟨(pickV q.b vars : Int), 1, 0⟩).h = 0 ∨ (if oddB q.c = true then (⟨(pickV q.b vars : Int), 0, 1⟩ : Nd) else ⟨(pickV q.b vars : Int), 1, 0⟩).h = 1 := by split <;> simp
    generalize (if oddB q.c = true then (⟨(pickV q.b vars : Int), 0, 1⟩ : Nd) else ⟨(pickV q.b vars : Int), 1, 0⟩) = n at *
    obtain ⟨a1, a2⟩ := (lone_nil hn).make hn
    obtain ⟨b1, b2⟩ := h'.make hn
    unfold roundF
    simp only [hs, a1, b1]
    refine ⟨fun i => ?_, trivial⟩
    show view (swept _ (marksOf _ [0, 1, 2])) i = view (swept _ (marksOf _ [0, 1, 2])) i
    rw [view_swept, view_swept, marks_lone hn hl hh a2, marks_lone hn hl hh b2]
    by_cases z : i = 0
    · subst z; rw [a2, b2]
    · simp [z]
  · obtain ⟨e, he, hs⟩ := step_ends hv0 hv q c
    unfold roundF
    simp only [hs]
    refine ⟨fun i => ?_, trivial⟩
    show view (swept _ (marksOf _ [0, 1, e])) i = view (swept _ (marksOf _ [0, 1, e])) i
    rw [view_swept, view_swept, marks_ends he, marks_ends he]
    simp
end

theorem funF_pre (vars : Nat) : ∀ (qs : List Quad) (st : List Nd × List Int), ∃ t, (funF vars st qs).2 = st.2 ++ t
  | [], st => ⟨[], by simp [funF]⟩
  | q :: qs, st => by
    obtain ⟨t, ht⟩ := funF_pre vars qs (roundF vars st q)
    exact ⟨(stepF vars st.1 st.2 q).2 :: t, by show (funF vars (roundF vars st q) qs).2 = _; rw [ht]; simp [roundF]⟩
theorem funT_pre (vars : Nat) : ∀ (qs : List Quad) (T : List Fn'), ∃ t, funT vars T qs = T ++ t
  | [], T => ⟨[], by simp [funT]⟩
  | q :: qs, T => by
    obtain ⟨t, ht⟩ := funT_pre vars qs (roundT vars T q)
    exact ⟨stepT vars T q :: t, by show funT vars (roundT vars T q) qs = _; rw [ht]; simp [roundT]⟩

/-- A literal's handle tells its node. -/
theorem lit_node {vars : Nat} {ns : List Nd} (hg : Good vars ns) (hl : ns.length ≤ 800000) {v : Nat} (is : Bool) (hv : v < vars) (h24 : vars ≤ 6) (hh : hasB ns 2 = true) (hs : ∀ f, sem ns 2 f = (f v == is)) : view ns 0 = if is = true then ⟨(v : Int), 0, 1⟩ else ⟨(v : Int), 1, 0⟩ := by
  have p6 : 2 ^ vars ≤ 64 := Nat.pow_le_pow_right (n := 2) (by omega) h24
  have r := lit_ok hg (v := (v : Int)) is (by omega) (by omega) (by omega) (by omega)
  have e : (litF ns (v : Int) is).2 = 2 := same_handle r.good r.has (r.ext.has _ hh) (fun f => by rw [r.sem f, sem_ext hg.ranked r.ext hh, hs f, Int.toNat_natCast])
  have e' : (makeF ns (if is = true then ⟨(v : Int), 0, 1⟩ else ⟨(v : Int), 1, 0⟩)).2 = 2 := by
    rw [← e]; unfold litF nodeF; cases is <;> simp
  have ht : topOf ns 2 < 24 := by unfold hasB at hh; simpa using hh
  generalize (if is = true then (⟨(v : Int), 0, 1⟩ : Nd) else ⟨(v : Int), 1, 0⟩) = n at *
  unfold makeF at e'
  by_cases c : idx ns n < ns.length
  · rw [if_pos c] at e'
    have e0 : (2 + (idx ns n : Int)) = 2 := e'
    have e1 : idx ns n = 0 := by omega
    have := idx_at c
    rw [e1] at this c
    rw [view_at c]; exact this
  · rw [if_neg c] at e'
    have e0 : (2 + (lfree ns : Int)) = 2 := e'
    have e1 : lfree ns = 0 := by omega
    have := (lfree_view ns).1
    rw [e1] at this
    rw [top_view, if_pos (by omega)] at ht
    exact absurd ht this

/-- Made again behind a sweep: the same handles. -/
theorem again_same {vars : Nat} (hv0 : 0 < vars) (hv : vars ≤ 6) (qs : List Quad) (hq : qs.length ≤ 1000) (keep : List Int) :
    (funF vars (swept (funF vars ([], [0, 1]) qs).1 (marksOf (funF vars ([], [0, 1]) qs).1 keep), [0, 1]) qs).2 = (funF vars ([], [0, 1]) qs).2 := by
  cases qs with
  | nil => rfl
  | cons q qs =>
    have p6 : 2 ^ vars ≤ 64 := Nat.pow_le_pow_right (n := 2) (by omega) hv
    simp only [List.length_cons] at hq
    obtain ⟨hsem, hlen, hal⟩ := fun_ok hv0 hv (q :: qs) [] [0, 1] _ (sems_start (good_nil vars)) (by simp) (by simp; omega)
    have hlone : pickV q.a 9 = 0 → Lone (swept (funF vars ([], [0, 1]) (q :: qs)).1 (marksOf (funF vars ([], [0, 1]) (q :: qs)).1 keep)) (if oddB q.c = true then ⟨(pickV q.b vars : Int), 0, 1⟩ else ⟨(pickV q.b vars : Int), 1, 0⟩) := fun c => by
      have pb := pickV_lt q.b hv0
      obtain ⟨t, ht⟩ := funF_pre vars qs (roundF vars ([], [0, 1]) q)
      obtain ⟨t', ht'⟩ := funT_pre vars qs (roundT vars [fun _ => false, fun _ => true] q)
      have ea : (funF vars ([], [0, 1]) (q :: qs)).2 = 0 :: 1 :: 2 :: t := by
        show (funF vars (roundF vars ([], [0, 1]) q) qs).2 = _
        rw [ht]; unfold roundF stepF; rw [c]; simp only
        have : (litF [] (pickV q.b vars : Int) (oddB q.c)).2 = 2 := by
          unfold litF nodeF
          cases oddB q.c
          · rw [if_neg (by simp), if_neg (by simp)]; exact ((lone_nil (n := ⟨(pickV q.b vars : Int), 1, 0⟩) (by show ((pickV q.b vars : Nat) : Int) < 24; omega)).make (by show ((pickV q.b vars : Nat) : Int) < 24; omega)).1
          · rw [if_pos rfl, if_neg (by simp)]; exact ((lone_nil (n := ⟨(pickV q.b vars : Int), 0, 1⟩) (by show ((pickV q.b vars : Nat) : Int) < 24; omega)).make (by show ((pickV q.b vars : Nat) : Int) < 24; omega)).1
        rw [this]; rfl
      have et : funT vars [fun _ => false, fun _ => true] (q :: qs) = (fun _ => false) :: (fun _ => true) :: (fun f => f (pickV q.b vars) == oddB q.c) :: t' := by
        show funT vars (roundT vars [fun _ => false, fun _ => true] q) qs = _
        rw [ht']; unfold roundT stepT; rw [c]; rfl
      rw [ea, et] at hsem
      have hh := hsem.has 2 (by simp)
      have hs := hsem.sem 2 (by simp) (by simp)
      have hg := hsem.good
      clear hsem ea et ht ht'
      generalize (funF vars ([], [0, 1]) (q :: qs)).1 = fs at *
      have h0 := lit_node hg (by simp at hlen; omega) (oddB q.c) pb hv hh hs
      have hn : (if oddB q.c = true then (⟨(pickV q.b vars : Int), 0, 1⟩ : Nd) else ⟨(pickV q.b vars : Int), 1, 0⟩).v < 24 := by split <;> (show ((pickV q.b vars : Nat) : Int) < 24; omega)
      generalize (if oddB q.c = true then (⟨(pickV q.b vars : Int), 0, 1⟩ : Nd) else ⟨(pickV q.b vars : Int), 1, 0⟩) = n at *
      obtain ⟨l0, e0⟩ := idx_view hn h0
      refine ⟨fun i hi => ?_, ?_⟩
      · rw [view_swept] at hi
        by_cases cm : mk (marksOf fs keep) i = true
        · rw [if_pos cm] at hi
          obtain ⟨li, ei⟩ := idx_view hn hi
          exact hg.once i 0 li l0 (by rw [ei]; exact hn) (by rw [ei, e0])
        · rw [if_neg cm] at hi; rw [← hi] at hn; simp at hn
      · rw [view_swept]
        by_cases cm : mk (marksOf fs keep) 0 = true
        · rw [if_pos cm]; exact Or.inl h0
        · rw [if_neg cm]; exact Or.inr (by simp)
    generalize (swept (funF vars ([], [0, 1]) (q :: qs)).1 (marksOf (funF vars ([], [0, 1]) (q :: qs)).1 keep)) = n2 at *
    obtain ⟨v1, v2⟩ := first_view hv0 (by omega) q hlone
    obtain ⟨h1, h2⟩ := round_ok (sems_start (good_nil vars)) (by simp) hv0 (by omega) (by simp; omega) q
    simp only [List.length_nil] at h2
    have h3 := roundF_len vars ([], [0, 1]) q
    have r := (fun_view hv0 hv qs _ (roundF vars (n2, [0, 1]) q).1 _ _ v1 h1 (by rw [h3]; simp) (by omega)).2
    rw [show ((roundF vars (n2, [0, 1]) q).1, (roundF vars ([], [0, 1]) q).2) = roundF vars (n2, [0, 1]) q by rw [v2]] at r
    exact r.symm
end Go.Proofs.Ytdnojfkncpkkmab
