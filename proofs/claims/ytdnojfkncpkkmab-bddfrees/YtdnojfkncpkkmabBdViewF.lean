/- .. and so are joins, steps, sweeps and what a list of steps makes. -/
import Derived.Test.YtdnojfkncpkkmabBdView
import Derived.Test.YtdnojfkncpkkmabBdOps
namespace Go.Proofs.Ytdnojfkncpkkmab
open Go.RowKit Go.Maps

def JoinVw (vars : Nat) (v : Int) (P : List Nd → List (Nd × Int) → Prop) (J : Join) : Prop :=
  ∀ (a b : List Nd) (m : List (Nd × Int)) (l h : Int), Vw a b → Good vars a → P a m → hasB a l = true → hasB a h = true → v < topOf a l → v < topOf a h → a.length + 2 ^ ((vars : Int) - v - 1).toNat ≤ 900000 → Same3 (J a m l h) (J b m l h)

/-- The same, all four. -/
def Same4 (x y : JoinedR) : Prop := Vw x.1 y.1 ∧ x.2.1 = y.2.1 ∧ x.2.2.1 = y.2.2.1 ∧ x.2.2.2 = y.2.2.2

section
variable {vars : Nat} {v : Int} {jf : Bool → Bool → Bool} {P : List Nd → List (Nd × Int) → Prop} {J : Join}

theorem joined_view (hJ : JoinOk vars v jf P J) (hV : JoinVw vars v P J) (hv0 : 0 ≤ v) (hv : v < 24) : ∀ (d : Nat) (a b : List Nd) (m : List (Nd × Int)) (dn : List (Int × Int)) (h : Int), Vw a b → Good vars a → P a m → DoneOk jf v a dn → hasB a h = true → v < topOf a h + d → a.length + 2 ^ ((vars : Int) - topOf a h).toNat ≤ 900000 →
    Same4 (joinedF d J a m dn h v) (joinedF d J b m dn h v)
  | 0, a, b, m, dn, h, hw, _, _, _, _, _, _ => ⟨hw, rfl, rfl, rfl⟩
  | d + 1, a, b, m, dn, h, hw, hg, hm, hd, hh, ht, hl => by
    have hr := hg.ranked
    have htop := hw.top h
    unfold joinedF
    rw [← htop]
    by_cases c1 : v < topOf a h
    · rw [if_pos c1, if_pos c1]; exact ⟨hw, rfl, rfl, rfl⟩
    rw [if_neg c1, if_neg c1]
    have hn : topOf a h ≠ 24 := by omega
    have hk := kids hr hn
    have htv := top_vars hg hn
    have ht0 := (topOf_le hr h).1
    rw [← hw.node hn]
    by_cases c2 : topOf a h = v
    · rw [if_pos c2, if_pos c2]
      have hp : 2 ^ ((vars : Int) - v - 1).toNat ≤ 2 ^ ((vars : Int) - topOf a h).toNat := Nat.pow_le_pow_right (by omega) (by omega)
      obtain ⟨j1, j2, j3⟩ := hV a b m _ _ hw hg hm hk.2.1 hk.2.2.2 (by omega) (by omega) (by omega)
      exact ⟨j1, j2, rfl, j3⟩
    rw [if_neg c2, if_neg c2]
    cases e : look dn h with
    | some x => exact ⟨hw, rfl, rfl, rfl⟩
    | none =>
      have hpow : 2 ^ ((vars : Int) - topOf a h).toNat = 2 ^ (((vars : Int) - topOf a h).toNat - 1) + 2 ^ (((vars : Int) - topOf a h).toNat - 1) := by
        obtain ⟨q, hq⟩ : ∃ q, ((vars : Int) - topOf a h).toNat = q + 1 := ⟨((vars : Int) - topOf a h).toNat - 1, by omega⟩
        rw [hq, Nat.add_sub_cancel, Nat.pow_succ]; omega
      have pge := Nat.one_le_two_pow (n := ((vars : Int) - topOf a h).toNat - 1)
      have p1 : 2 ^ ((vars : Int) - topOf a (nd a (pl h)).l).toNat ≤ 2 ^ (((vars : Int) - topOf a h).toNat - 1) := Nat.pow_le_pow_right (by omega) (by omega)
      have ok1 := joined_ok hJ hv0 hv d a m dn (nd a (pl h)).l hg hm hd hk.2.1 (by omega) (by omega)
      have vw1 := joined_view hJ hV hv0 hv d a b m dn (nd a (pl h)).l hw hg hm hd hk.2.1 (by omega) (by omega)
      show Same4 (_, _, _, _) (_, _, _, _)
      generalize joinedF d J a m dn (nd a (pl h)).l v = r1 at *
      generalize joinedF d J b m dn (nd a (pl h)).l v = s1 at *
      obtain ⟨x1, x2, x3, x4⟩ := vw1
      have th : topOf r1.1 (nd a (pl h)).h = topOf a (nd a (pl h)).h := ok1.ext.top _ hk.2.2.2
      have p2 : 2 ^ ((vars : Int) - topOf r1.1 (nd a (pl h)).h).toNat ≤ 2 ^ (((vars : Int) - topOf a h).toNat - 1) := Nat.pow_le_pow_right (by omega) (by rw [th]; omega)
      have l1 := ok1.len
      have vw2 := joined_view hJ hV hv0 hv d r1.1 s1.1 r1.2.1 r1.2.2.1 (nd a (pl h)).h x1 ok1.good ok1.memo ok1.done (ok1.ext.has _ hk.2.2.2) (by rw [th]; omega) (by omega)
      rw [← x2, ← x3, ← x4]
      generalize joinedF d J r1.1 r1.2.1 r1.2.2.1 (nd a (pl h)).h v = r2 at *
      generalize joinedF d J s1.1 r1.2.1 r1.2.2.1 (nd a (pl h)).h v = s2 at *
      obtain ⟨y1, y2, y3, y4⟩ := vw2
      rw [← y2, ← y3, ← y4]
      obtain ⟨n1, n2⟩ := y1.nodeF (v := topOf a h) (by omega) r1.2.2.2 r2.2.2.2
      exact ⟨n2, rfl, by show memoPut _ _ _ = memoPut _ _ _; rw [n1], n1⟩
end

theorem setJ_view (vars : Nat) (v : Int) (is : Bool) : JoinVw vars v (fun _ _ => True) (setJ is) := fun _ _ _ _ _ hw _ _ _ _ _ _ _ => ⟨hw, rfl, rfl⟩
theorem orJ_view {vars : Nat} {v : Int} (hv0 : 0 ≤ v) (hv : v < 24) : JoinVw vars v (MemoOk true) orJ := fun a b m l h hw hg hm hl hh tl th hlen => by
  have ht : v < minT a ⟨l, 1, h⟩ := by have := minT_ge (ns := a) (k := ⟨l, 1, h⟩) (x := v + 1) tl (by show _ ≤ topOf a 1; rw [top_end1]; omega) th; omega
  have h3 : Has3 a ⟨l, 1, h⟩ := ⟨hl, has_end1 a, hh⟩
  obtain ⟨r, hp⟩ := makesJ_ok hv0 hg hm h3 ht hlen
  exact makes_view true 24 a b m ⟨l, 1, h⟩ hw hg hm h3 (by omega) (by omega)
theorem andJ_view {vars : Nat} {v : Int} (hv0 : 0 ≤ v) (hv : v < 24) : JoinVw vars v (MemoOk true) andJ := fun a b m l h hw hg hm hl hh tl th hlen => by
  have ht : v < minT a ⟨l, h, 0⟩ := by have := minT_ge (ns := a) (k := ⟨l, h, 0⟩) (x := v + 1) tl th (by show _ ≤ topOf a 0; rw [top_end0]; omega); omega
  have h3 : Has3 a ⟨l, h, 0⟩ := ⟨hl, hh, has_end0 a⟩
  obtain ⟨r, hp⟩ := makesJ_ok hv0 hg hm h3 ht hlen
  exact makes_view true 24 a b m ⟨l, h, 0⟩ hw hg hm h3 (by omega) (by omega)

/-- The same handle, the same nodes. -/
def Same2 (x y : List Nd × Int) : Prop := Vw x.1 y.1 ∧ x.2 = y.2

section
variable {vars : Nat} {a b : List Nd}

theorem ask_view (op : Bool) (hw : Vw a b) (hg : Good vars a) {k : Nd} (h3 : Has3 a k) (hl : a.length + 2 ^ vars ≤ 900000) : Same2 (askF op a k) (askF op b k) := by
  have hp := rk_le (vars := vars) hg.ranked k
  obtain ⟨x1, -, x3⟩ := makes_view op 24 a b [] k hw hg (memo_nil op a) h3 (by have := (minT_bd hg.ranked k).1; omega) (by omega)
  exact ⟨x1, x3⟩
theorem lit_view (hw : Vw a b) {v : Int} (hv : v < 24) (is : Bool) : Same2 (litF a v is) (litF b v is) := by
  unfold litF
  cases is with
  | true => rw [if_pos rfl, if_pos rfl]; exact ⟨(hw.nodeF hv 0 1).2, (hw.nodeF hv 0 1).1⟩
  | false => rw [if_neg (by simp), if_neg (by simp)]; exact ⟨(hw.nodeF hv 1 0).2, (hw.nodeF hv 1 0).1⟩
theorem without_view {v : Int} {jf : Bool → Bool → Bool} {P : List Nd → List (Nd × Int) → Prop} {J : Join} (hJ : JoinOk vars v jf P J) (hV : JoinVw vars v P J) (hw : Vw a b) (hP : P a []) (hg : Good vars a) {h : Int} (hh : hasB a h = true) (hv0 : 0 ≤ v) (hv : v < 24) (hl : a.length + 2 ^ vars ≤ 900000) : Same2 (withoutF J a h v) (withoutF J b h v) := by
  have t0 := (topOf_le hg.ranked h).1
  have hp : 2 ^ ((vars : Int) - topOf a h).toNat ≤ 2 ^ vars := Nat.pow_le_pow_right (by omega) (by omega)
  obtain ⟨x1, -, -, x4⟩ := joined_view hJ hV hv0 hv 24 a b [] [] h hw hg hP ⟨fun p h => (by cases h), fun p h => (by cases h), fun p h => (by cases h), fun p h => (by cases h)⟩ hh (by omega) (by omega)
  exact ⟨x1, x4⟩

theorem step_view {al : List Int} {T : List Fn'} (hw : Vw a b) (hs : Sems vars a al T) (hne : 0 < al.length) (hv0 : 0 < vars) (hv : vars ≤ 24) (hl : a.length + 2 ^ vars ≤ 900000) (q : Quad) : Same2 (stepF vars a al q) (stepF vars b al q) := by
  obtain ⟨ha, -⟩ := hs.at hne q.b
  obtain ⟨hb, -⟩ := hs.at hne q.c
  obtain ⟨hc, -⟩ := hs.at hne q.d
  have hg := hs.good
  have pb := pickV_lt q.b hv0
  have pc := pickV_lt q.c hv0
  unfold stepF
  split
  · exact lit_view hw (by omega) _
  · exact ask_view true hw hg ⟨ha, has_end0 a, has_end1 a⟩ hl
  · exact ask_view true hw hg ⟨ha, hb, has_end0 a⟩ hl
  · exact ask_view true hw hg ⟨ha, has_end1 a, hb⟩ hl
  · exact ask_view false hw hg ⟨ha, hb, has_end0 a⟩ hl
  · exact ask_view true hw hg ⟨ha, hb, hc⟩ hl
  · exact without_view (setJ_ok vars (pickV q.c vars : Int) (oddB q.d)) (setJ_view vars _ _) hw trivial hg ha (by omega) (by omega) hl
  · exact without_view (orJ_ok (v := (pickV q.c vars : Int)) (by omega) (by omega)) (orJ_view (by omega) (by omega)) hw (memo_nil true a) hg ha (by omega) (by omega) hl
  · exact without_view (andJ_ok (v := (pickV q.c vars : Int)) (by omega) (by omega)) (andJ_view (by omega) (by omega)) hw (memo_nil true a) hg ha (by omega) (by omega) hl

theorem mark_view (hw : Vw a b) : ∀ (d : Nat) (h : Int) (m m' : List Bool), m.length = a.length → m'.length = b.length → (∀ i, mk m i = mk m' i) → ∀ i, mk (markF d a h m) i = mk (markF d b h m') i
  | 0, _, _, _, _, _, hm, i => hm i
  | d + 1, h, m, m', l1, l2, hm, i => by
    unfold markF
    rw [← hw.top h, ← hm]
    by_cases c : topOf a h = 24 ∨ mk m (h - 2).toNat = true
    · rw [if_pos c, if_pos c]; exact hm i
    · rw [if_neg c, if_neg c]
      have hn : topOf a h ≠ 24 := fun e => c (Or.inl e)
      have hn' : topOf b h ≠ 24 := by rw [← hw.top]; exact hn
      have e1 : nd a (h - 2).toNat = nd b (h - 2).toNat := hw.node hn
      have k1 := (topOf_node hn).2.1
      have k2 := (topOf_node hn').2.1
      rw [← e1]
      refine mark_view hw d _ _ _ (by rw [markF_length, List.length_set]; exact l1) (by rw [markF_length, List.length_set]; exact l2) (mark_view hw d _ _ _ (by rw [List.length_set]; exact l1) (by rw [List.length_set]; exact l2) (fun j => ?_)) i
      rw [mk_set m _ j (by omega), mk_set m' _ j (by omega), hm j]
theorem marks_view (hw : Vw a b) (fs : List Int) (i : Nat) : mk (marksOf a fs) i = mk (marksOf b fs) i := by
  have key : ∀ (fs : List Int) (m m' : List Bool), m.length = a.length → m'.length = b.length → (∀ i, mk m i = mk m' i) → ∀ i, mk (fs.foldl (fun m h => markF 24 a h m) m) i = mk (fs.foldl (fun m h => markF 24 b h m) m') i := by
    intro fs
    induction fs with
    | nil => intro m m' _ _ h i; exact h i
    | cons f fs ih =>
      intro m m' l1 l2 h i
      rw [List.foldl_cons, List.foldl_cons]
      exact ih _ _ (by rw [markF_length]; exact l1) (by rw [markF_length]; exact l2) (mark_view hw 24 f m m' l1 l2 h) i
  exact key fs _ _ (by simp) (by simp) (fun i => by rw [mk_none, mk_none]) i
theorem view_swept (ns : List Nd) (M : List Bool) (i : Nat) : view (swept ns M) i = if mk M i = true then view ns i else ⟨24, 0, 0⟩ := by
  by_cases c : i < ns.length
  · rw [view_at (by rw [swept_length]; exact c), swept_at ns M i c, view_at c]
  · rw [view_free (by rw [swept_length]; exact c), view_free c]; split <;> rfl
theorem Vw.swept (hw : Vw a b) {M M' : List Bool} (hm : ∀ i, mk M i = mk M' i) : Vw (Go.Proofs.Ytdnojfkncpkkmab.swept a M) (Go.Proofs.Ytdnojfkncpkkmab.swept b M') := fun i => by
  rw [view_swept, view_swept, hm, hw i]

theorem round_view {al : List Int} {T : List Fn'} (hw : Vw a b) (hs : Sems vars a al T) (hne : 0 < al.length) (hv0 : 0 < vars) (hv : vars ≤ 24) (hl : a.length + 2 ^ vars ≤ 900000) (q : Quad) : Vw (roundF vars (a, al) q).1 (roundF vars (b, al) q).1 ∧ (roundF vars (a, al) q).2 = (roundF vars (b, al) q).2 := by
  obtain ⟨x1, x2⟩ := step_view hw hs hne hv0 hv hl q
  unfold roundF
  simp only
  rw [← x2]
  exact ⟨x1.swept (marks_view x1 _), rfl⟩
end

/-- Steps make the same handles where the same nodes are. -/
theorem fun_view {vars : Nat} (hv0 : 0 < vars) (hv : vars ≤ 6) : ∀ (qs : List Quad) (a b : List Nd) (al : List Int) (T : List Fn'), Vw a b → Sems vars a al T → 0 < al.length → a.length + 64 * qs.length ≤ 800000 →
    Vw (funF vars (a, al) qs).1 (funF vars (b, al) qs).1 ∧ (funF vars (a, al) qs).2 = (funF vars (b, al) qs).2
  | [], _, _, _, _, hw, _, _, _ => ⟨hw, rfl⟩
  | q :: qs, a, b, al, T, hw, hs, hne, hl => by
    have p6 : 2 ^ vars ≤ 64 := Nat.pow_le_pow_right (n := 2) (by omega) hv
    simp only [List.length_cons] at hl
    obtain ⟨h1, h2⟩ := round_ok hs hne hv0 (by omega) (by omega) q
    have h3 := roundF_len vars (a, al) q
    obtain ⟨v1, v2⟩ := round_view hw hs hne hv0 (by omega) (by omega) q
    have ih := fun_view hv0 hv qs (roundF vars (a, al) q).1 (roundF vars (b, al) q).1 (roundF vars (a, al) q).2 (roundT vars T q) v1 h1 (by rw [h3]; omega) (by omega)
    have e : ((roundF vars (b, al) q).1, (roundF vars (a, al) q).2) = roundF vars (b, al) q := by rw [v2]
    rw [e] at ih
    exact ih
end Go.Proofs.Ytdnojfkncpkkmab
