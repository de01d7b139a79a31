/- A round of Tables: what is known ahead of it. -/
import Derived.Test.YtacgoopgifoojaaBdTabS
namespace Go.Proofs.Ytacgoopgifoojaa
open Go.RowKit Go.Maps

structure RF (w : World) (n N vars : Nat) (gs : List Nat) (T : List Fn') (q : Quad) (g ga gb gc p1 p2 p3 v1 v2 t : Nat) (fA fB fC : Nat → Bool) (L : List Bool) : Prop where
  P1 : ∀ W, Calls Try.prog 41 #[.int .i64 q.b, .int .i64 (N : Int)] W fun e w' => e = .returned (.int .i64 (p1 : Int)) ∧ W = w'
  P2 : ∀ W, Calls Try.prog 41 #[.int .i64 q.c, .int .i64 (N : Int)] W fun e w' => e = .returned (.int .i64 (p2 : Int)) ∧ W = w'
  P3 : ∀ W, Calls Try.prog 41 #[.int .i64 q.d, .int .i64 (N : Int)] W fun e w' => e = .returned (.int .i64 (p3 : Int)) ∧ W = w'
  P4 : ∀ W, Calls Try.prog 41 #[.int .i64 q.c, .int .i64 (vars : Int)] W fun e w' => e = .returned (.int .i64 (v2 : Int)) ∧ W = w'
  P5 : ∀ W, Calls Try.prog 41 #[.int .i64 q.b, .int .i64 (vars : Int)] W fun e w' => e = .returned (.int .i64 (v1 : Int)) ∧ W = w'
  P9 : ∀ W, Calls Try.prog 41 #[.int .i64 q.a, .int .i64 9] W fun e w' => e = .returned (.int .i64 (t : Int)) ∧ W = w'
  l1 : p1 < N
  l2 : p2 < N
  l3 : p3 < N
  lv1 : v1 < vars
  lv2 : v2 < vars
  lt9 : t < 9
  gl : g < w.heap.size
  gn : ∀ x ∈ gs, g ≠ x
  o1 : w.cell? ⟨g, p1, none⟩ = some (.slice (some ⟨ga, 0, none⟩) n n)
  o2 : w.cell? ⟨g, p2, none⟩ = some (.slice (some ⟨gb, 0, none⟩) n n)
  o3 : w.cell? ⟨g, p3, none⟩ = some (.slice (some ⟨gc, 0, none⟩) n n)
  al : ga < w.heap.size
  bl : gb < w.heap.size
  cl : gc < w.heap.size
  cA : ∀ j, j < n → w.cell? ⟨ga, j, none⟩ = some (.bool (fA j))
  cB : ∀ j, j < n → w.cell? ⟨gb, j, none⟩ = some (.bool (fB j))
  cC : ∀ j, j < n → w.cell? ⟨gc, j, none⟩ = some (.bool (fC j))
  Ll : L.length = n
  V0 : t = 0 → ∀ j (hj : j < L.length), L[j] = (bitsF j v1 == oddB q.c)
  V1 : t = 1 → ∀ j (hj : j < L.length), L[j] = !(fA j)
  V2 : t = 2 → ∀ j (hj : j < L.length), L[j] = (fA j && fB j)
  V3 : t = 3 → ∀ j (hj : j < L.length), L[j] = (fA j || fB j)
  V4 : t = 4 → ∀ j (hj : j < L.length), L[j] = (fA j != fB j)
  V5 : t = 5 → ∀ j (hj : j < L.length), L[j] = if fA j = true then fB j else fC j
  V6 : t = 6 → ∀ j (hj : j < L.length), L[j] = fA (if oddB q.d then j ||| 1 <<< v2 else offN j v2)
  V7 : t = 7 → ∀ j (hj : j < L.length), L[j] = (fA (offN j v2) || fA (j ||| 1 <<< v2))
  V8 : t = 8 → ∀ j (hj : j < L.length), L[j] = (fA (offN j v2) && fA (j ||| 1 <<< v2))
  next : (roundT vars T q).map (tabOf vars) = T.map (tabOf vars) ++ [L]
  offs : ∀ j, j < n → bits .or .i64 (j : Int) ((2 : Int) ^ v2) = ((j ||| 1 <<< v2 : Nat) : Int) ∧ j ||| 1 <<< v2 < n ∧ bits .andNot .i64 (j : Int) ((2 : Int) ^ v2) = (offN j v2 : Int) ∧ offN j v2 < n
  bit : ∀ j, j < n → (bits .and .i64 ((j : Int) / 2 ^ v1) 1 == 1) = bitsF j v1

theorem round_facts {B vars n N : Nat} {T : List Fn'} {gs : List Nat} {w : World} {v : Value} (hn : 2 ^ vars = n) (hv0 : 0 < vars) (hv6 : vars ≤ 6) (hN : 0 < N) (hN2 : N ≤ 100) (hTl : T.length = N) (htab : TabsAt B w v n gs (T.map (tabOf vars))) (q : Quad) :
    ∃ (g c ga gb gc p1 p2 p3 v1 v2 t : Nat) (fA fB fC : Nat → Bool) (L : List Bool), v = .slice (some ⟨g, 0, none⟩) N c ∧ RF w n N vars gs T q g ga gb gc p1 p2 p3 v1 v2 t fA fB fC L := by
  subst hn
  have p6 := pow_le6 hv6
  have hgl : gs.length = N := by rw [htab.len, List.length_map]; exact hTl
  obtain ⟨g, c, e, hgo, hoc, hgne⟩ := htab.form (by omega)
  rw [hgl] at e
  have pl : ∀ x, pickV x N < gs.length := fun x => by rw [hgl]; exact pickV_lt x hN
  have tat : ∀ x, tAt T x = T[pickV x N]'(by rw [hTl]; exact pickV_lt x hN) := fun x => by
    unfold tAt
    have h1 : pickV x T.length < T.length := pickV_lt x (by omega)
    simp only [List.getD_eq_getElem?_getD, List.getElem?_eq_getElem h1, Option.getD_some]
    exact getElem_congr_idx (by rw [hTl])
  have hc : ∀ x j, j < 2 ^ vars → w.cell? ⟨gs[pickV x N]'(pl x), j, none⟩ = some (.bool (tAt T x (bitsF j))) := fun x j hj => by
    rw [htab.cell rfl (pl x) (by rw [hTl]; exact pickV_lt x hN) j hj, tat]
  have hLi : ∀ j (hj : j < (tabOf vars (stepT vars T q)).length), (tabOf vars (stepT vars T q))[j] = stepT vars T q (bitsF j) := fun j hj => tabOf_at _ _ j hj
  have hlt : ∀ j, j < (tabOf vars (stepT vars T q)).length → j < 2 ^ vars := fun j hj => by rwa [tabOf_len] at hj
  have v2l := pickV_lt q.c hv0
  have v1l := pickV_lt q.b hv0
  exact ⟨g, c, gs[pickV q.b N]'(pl _), gs[pickV q.c N]'(pl _), gs[pickV q.d N]'(pl _), pickV q.b N, pickV q.c N, pickV q.d N, pickV q.b vars, pickV q.c vars, pickV q.a 9, fun j => tAt T q.b (bitsF j), fun j => tAt T q.c (bitsF j), fun j => tAt T q.d (bitsF j), tabOf vars (stepT vars T q), e,
    { P1 := fun W => rat_any q.b N hN (by omega) W
      P2 := fun W => rat_any q.c N hN (by omega) W
      P3 := fun W => rat_any q.d N hN (by omega) W
      P4 := fun W => rat_any q.c vars hv0 (by omega) W
      P5 := fun W => rat_any q.b vars hv0 (by omega) W
      P9 := fun W => rat_any q.a 9 (by omega) (by omega) W
      l1 := pickV_lt q.b hN
      l2 := pickV_lt q.c hN
      l3 := pickV_lt q.d hN
      lv1 := v1l
      lv2 := v2l
      lt9 := pickV_lt q.a (by omega)
      gl := hgo
      gn := hgne
      o1 := hoc _ (pl _)
      o2 := hoc _ (pl _)
      o3 := hoc _ (pl _)
      al := htab.lt _ (List.getElem_mem _)
      bl := htab.lt _ (List.getElem_mem _)
      cl := htab.lt _ (List.getElem_mem _)
      cA := fun j hj => hc q.b j hj
      cB := fun j hj => hc q.c j hj
      cC := fun j hj => hc q.d j hj
      Ll := tabOf_len _ _
      V0 := fun h j hj => (hLi j hj).trans (step0 h)
      V1 := fun h j hj => (hLi j hj).trans (step1 h)
      V2 := fun h j hj => (hLi j hj).trans (step2 h)
      V3 := fun h j hj => (hLi j hj).trans (step3 h)
      V4 := fun h j hj => (hLi j hj).trans (step4 h)
      V5 := fun h j hj => (hLi j hj).trans (step5 h)
      V6 := fun h j hj => (hLi j hj).trans (step6 h (hlt j hj) v2l hv6)
      V7 := fun h j hj => (hLi j hj).trans (step7 h (hlt j hj) v2l hv6)
      V8 := fun h j hj => (hLi j hj).trans (step8 h (hlt j hj) v2l hv6)
      next := by simp [roundT]
      offs := fun j hj => ⟨(on_num hj v2l hv6).1, (on_num hj v2l hv6).2, (off_num hj v2l hv6).1, (off_num hj v2l hv6).2⟩
      bit := fun j hj => bit_num (by omega) (by omega) }⟩

/-- One more table. -/
theorem TabsAt.snoc {B n N gt k' : Nat} {w w7 : World} {v v7 : Value} {gs : List Nat} {ts : List (List Bool)} {L : List Bool} (h : TabsAt B w v n gs ts) (hN : gs.length = N) (hb : BoolsAt w gt L) (hL : L.length = n) (hB : B ≤ gt) (hgt : v.ownBlock ≠ some gt) (hk : Kept (fun i => v.ownBlock = some i) w w7)
    (hrow : w7.ownsRow B 35 1 v7 (N + 1) (tcells n gs ++ [.slice (some ⟨gt, 0, none⟩) n n])) (hloc : v7.ownBlock = v.ownBlock ∨ v7.ownBlock = some k') (hk' : w.heap.size ≤ k') : TabsAt B w7 v7 n (gs ++ [gt]) (ts ++ [L]) := by
  subst hN
  have hlt := h.lt
  refine ⟨?_, by simp [h.len], fun t ht => ?_, fun g hg => ?_, fun g hg e => ?_, fun j h1 h2 => ?_⟩
  · have e : tcells n (gs ++ [gt]) = tcells n gs ++ [.slice (some ⟨gt, 0, none⟩) n n] := by simp [tcells]
    rw [e, List.length_append]; exact hrow
  · rcases List.mem_append.1 ht with h3 | h3
    · exact h.lens t h3
    · rw [List.mem_singleton] at h3; subst h3; exact hL
  · rcases List.mem_append.1 hg with h3 | h3
    · exact h.old g h3
    · rw [List.mem_singleton] at h3; subst h3; exact hB
  · have hgl : g < w.heap.size := by
      rcases List.mem_append.1 hg with h3 | h3
      · exact hlt g h3
      · rw [List.mem_singleton] at h3; subst h3; exact hb.lt
    rcases hloc with h4 | h4
    · rw [h4] at e
      rcases List.mem_append.1 hg with h3 | h3
      · exact h.apart g h3 e
      · rw [List.mem_singleton] at h3; subst h3; exact hgt e
    · rw [h4] at e
      have : k' = g := by simpa using e
      omega
  · by_cases hj : j < gs.length
    · have e1 : (gs ++ [gt])[j] = gs[j] := List.getElem_append_left hj
      have hj2 : j < ts.length := by rw [← h.len]; exact hj
      have e2 : (ts ++ [L])[j] = ts[j] := List.getElem_append_left hj2
      rw [e1, e2]
      exact (h.tabs j hj hj2).kept hk (h.apart _ (List.getElem_mem hj))
    · have e : j = gs.length := by simp at h1; omega
      subst e
      have e1 : (gs ++ [gt])[gs.length] = gt := by simp
      have e2 : (ts ++ [L])[gs.length] = L := by simp [h.len]
      rw [e1, e2]
      exact hb.kept hk hgt

/-- One more value of a table. -/
theorem store_tab {B g i n : Nat} {W3 ws X : World} {L : List Bool} (hL : L.length = n) (hi : i < n) (hrow : ws.ownsRow B 4 1 (.slice (some ⟨g, 0, none⟩) n n) n (mcells (partT L n i))) (hk : Kept (fun j => j = g) W3 ws) (hX : Below ws.heap.size ws X) (b : Bool) (hb : L[i]'(by omega) = b) :
    Kept (fun j => j = g) W3 (X.setCell ⟨g, i, none⟩ (.bool b)) ∧ (X.setCell ⟨g, i, none⟩ (.bool b)).ownsRow B 4 1 (.slice (some ⟨g, 0, none⟩) n n) n (mcells (partT L n (i + 1))) := by
  have h1 := ownsRow_new hrow hX
  have h2 := (h1.stored i (.bool b)).1
  rw [mcells_setB, partT_set hL hi b hb] at h2
  exact ⟨(hk.trans (Kept.of_below hX _)).trans (Kept.setCell _ _ _ rfl), h2⟩
theorem store_tab_drew {B g i n : Nat} {W3 ws X : World} {L : List Bool} (hL : L.length = n) (hi : i < n) (hrow : ws.ownsRow B 4 1 (.slice (some ⟨g, 0, none⟩) n n) n (mcells (partT L n i))) (hk : Kept (fun j => j = g) W3 ws) (hX : Below ws.heap.size ws X) (b : Bool) (hb : L[i]'(by omega) = b) :
    Kept (fun j => j = g) W3 (X.setCell ⟨g, i, none⟩ (.bool b)).drew ∧ (X.setCell ⟨g, i, none⟩ (.bool b)).drew.ownsRow B 4 1 (.slice (some ⟨g, 0, none⟩) n n) n (mcells (partT L n (i + 1))) := by
  obtain ⟨h1, h2⟩ := store_tab hL hi hrow hk hX b hb
  exact ⟨h1.trans (Kept.of_below (Below.refl _ _).drew _), ownsRow_new h2 (Below.refl _ _).drew⟩
theorem store_tab2 {B g i n : Nat} {W3 ws X : World} {L : List Bool} (hL : L.length = n) (hi : i < n) (hrow : ws.ownsRow B 4 1 (.slice (some ⟨g, 0, none⟩) n n) n (mcells (partT L n i))) (hk : Kept (fun j => j = g) W3 ws) (hX : Below ws.heap.size ws X) (b' b : Bool) (hb : L[i]'(by omega) = b) :
    Kept (fun j => j = g) W3 ((X.setCell ⟨g, i, none⟩ (.bool b')).setCell ⟨g, i, none⟩ (.bool b)) ∧ ((X.setCell ⟨g, i, none⟩ (.bool b')).setCell ⟨g, i, none⟩ (.bool b)).ownsRow B 4 1 (.slice (some ⟨g, 0, none⟩) n n) n (mcells (partT L n (i + 1))) := by
  have h1 := ownsRow_new hrow hX
  have h2 := ((h1.stored i (.bool b')).1.stored i (.bool b)).1
  rw [mcells_setB, mcells_setB, List.set_set, partT_set hL hi b hb] at h2
  exact ⟨((hk.trans (Kept.of_below hX _)).trans (Kept.setCell _ _ _ rfl)).trans (Kept.setCell _ _ _ rfl), h2⟩
end Go.Proofs.Ytacgoopgifoojaa
