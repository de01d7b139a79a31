/- Inside Parse: lines and their places, in rows that grow. -/
import Derived.Test.YtljeigdkbnichaaGreatDoorCtLines
import Derived.Test.YtljeigdkbnichaaGreatDoorCtLineF
import Derived.Test.YtljeigdkbnichaaGreatDoorCtNew
import Derived.Maps.OwnIn
import Derived.Sort.CutIn
namespace Go.Proofs.YtljeigdkbnichaaGreatDoor
open Go.RowKit Go.Deep Go.Shelf Sv

/-- No range lies in a block. -/
def RgN (ls : List Ln) (vs : List Value) (b : Option Nat) : Prop := ∀ i, i < ls.length → 0 < (ls.getD i default).rng.length → ∀ g, (vs.getD i undef).ownBlock = some g → some g ≠ b
theorem RgN.nil (b : Option Nat) : RgN [] [] b := fun i h => by simp at h
theorem RgN.none (ls : List Ln) (vs : List Value) : RgN ls vs none := fun _ _ _ _ _ h => by cases h
theorem SpAt.lt' {w : World} {v : Value} {l : List Span} (h : SpAt w v l) (hl : 0 < l.length) {g : Nat} (hg : v.ownBlock = some g) : g < w.heap.size := by
  obtain ⟨g', cap, e, hlt, _⟩ := h.cells 0 hl
  rw [e] at hg
  simp [Value.ownBlock] at hg
  omega
theorem RgN.new {W : World} {ls : List Ln} {vs : List Value} (h : RgsAt W ls vs) {b : Nat} (hb : W.heap.size ≤ b) : RgN ls vs (some b) := fun i hi hl g hg e => by
  have := (h.2 i hi).1.lt' hl hg
  cases e
  omega
theorem RgN.snoc {ls : List Ln} {vs : List Value} {b : Option Nat} (h : RgN ls vs b) (hv : vs.length = ls.length) {x : Ln} {v : Value} (hx : 0 < x.rng.length → ∀ g, v.ownBlock = some g → some g ≠ b) : RgN (ls ++ [x]) (vs ++ [v]) b := by
  intro i hi
  by_cases hl : i < ls.length
  · have e1 : (ls ++ [x]).getD i default = ls.getD i default := by simp [List.getD_eq_getElem?_getD, List.getElem?_append_left hl]
    have e2 : (vs ++ [v]).getD i undef = vs.getD i undef := by simp [List.getD_eq_getElem?_getD, List.getElem?_append_left (show i < vs.length by rw [hv]; exact hl)]
    rw [e1, e2]; exact h i hl
  · obtain rfl : i = ls.length := by simp at hi; omega
    have e1 : (ls ++ [x]).getD ls.length default = x := by simp [List.getD_eq_getElem?_getD]
    have e2 : (vs ++ [v]).getD ls.length undef = v := by simp [List.getD_eq_getElem?_getD, ← hv]
    rw [e1, e2]; exact hx
theorem SpAt.grown {W W' : World} {v : Value} {l : List Span} {row : Option Nat} (h : SpAt W v l) (hg : W.grownBy W' row) (hn : 0 < l.length → ∀ g, v.ownBlock = some g → some g ≠ row) : SpAt W' v l :=
  ⟨h.form, fun i hi => by
    obtain ⟨g, cap, e, hlt, c0, c1⟩ := h.cells i hi
    have hne := hn (by omega) g (by rw [e]; rfl)
    exact ⟨g, cap, e, Nat.lt_of_lt_of_le hlt hg.size, (grown_cell hg hlt hne).trans c0, (grown_cell hg hlt hne).trans c1⟩⟩
theorem RgsAt.grown {W W' : World} {ls : List Ln} {vs : List Value} {row : Option Nat} (h : RgsAt W ls vs) (hg : W.grownBy W' row) (hn : RgN ls vs row) : RgsAt W' ls vs := ⟨h.1, fun i hi => ⟨(h.2 i hi).1.grown hg (hn i hi), (h.2 i hi).2⟩⟩
theorem SpAt.one' {W : World} {b : Nat} {v x : Value} {l : List Span} {i : Nat} (h : SpAt W v l) (hn : 0 < l.length → ∀ g, v.ownBlock = some g → some g ≠ some b) : SpAt (W.setCell ⟨b, i, none⟩ x) v l :=
  ⟨h.form, fun j hj => by
    obtain ⟨g, cap, e, hg, c0, c1⟩ := h.cells j hj
    have hne : g ≠ b := fun e' => hn (by omega) g (by rw [e]; rfl) (by rw [e'])
    exact ⟨g, cap, e, by simp [World.setCell]; exact hg, (cell_set_other hne).trans c0, (cell_set_other hne).trans c1⟩⟩
theorem RgsAt.set {W : World} {ls : List Ln} {vs : List Value} {b i : Nat} {x : Value} (h : RgsAt W ls vs) (hn : RgN ls vs (some b)) : RgsAt (W.setCell ⟨b, i, none⟩ x) ls vs := ⟨h.1, fun j hj => ⟨(h.2 j hj).1.one' (hn j hj), (h.2 j hj).2⟩⟩
theorem RgsAt.keptO {W W' : World} {ls : List Ln} {vs : List Value} {row : Option Nat} (h : RgsAt W ls vs) (hg : W.grownBy W' row) (hr : ∀ r, row = some r → ∃ o : Obj, W.heap[r]? = some o ∧ o.isCells = false) : RgsAt W' ls vs := ⟨h.1, fun i hi => ⟨spAt_kept (h.2 i hi).1 hg hr, (h.2 i hi).2⟩⟩
theorem row_keptO {W W' : World} {B t k n : Nat} {v : Value} {cs : List Value} {row : Option Nat} (h : W.ownsRow B t k v n cs) (hg : W.grownBy W' row) (hr : ∀ r, row = some r → ∃ o : Obj, W.heap[r]? = some o ∧ o.isCells = false) : W'.ownsRow B t k v n cs := by
  obtain ⟨h1, h2⟩ := h
  refine ⟨h1, ?_⟩
  rcases h2 with h2 | ⟨g, cap, cur, rfl, hB, hh, r⟩
  · exact Or.inl h2
  · refine Or.inr ⟨g, cap, cur, rfl, hB, (hg.block g (Array.getElem?_eq_some_iff.1 hh).1 (fun e => ?_)).trans hh, r⟩
    obtain ⟨o, ho, hc⟩ := hr g e.symm
    rw [hh] at ho
    cases ho; cases hc
theorem row_grown' {W W' : World} {B t k n : Nat} {v : Value} {cs : List Value} {row : Option Nat} (h : W.ownsRow B t k v n cs) (hg : W.grownBy W' row) (hne : v.ownBlock = none ∨ v.ownBlock ≠ row) : W'.ownsRow B t k v n cs := by
  obtain ⟨h1, h2⟩ := h
  refine ⟨h1, ?_⟩
  rcases h2 with h2 | ⟨g, cap, cur, rfl, hB, hh, r⟩
  · exact Or.inl h2
  · refine Or.inr ⟨g, cap, cur, rfl, hB, (hg.block g (Array.getElem?_eq_some_iff.1 hh).1 (fun e => ?_)).trans hh, r⟩
    rcases hne with h | h
    · simp [Value.ownBlock] at h
    · exact h e
theorem row_setLow {W : World} {B t k n b i : Nat} {v x : Value} {cs : List Value} (h : W.ownsRow B t k v n cs) (hb : b < B) : (W.setCell ⟨b, i, none⟩ x).ownsRow B t k v n cs := by
  refine ⟨h.1, ?_⟩
  rcases h.2 with h1 | ⟨g, cap, cur, h1, h2, h3, h4⟩
  · exact .inl h1
  · exact .inr ⟨g, cap, cur, h1, h2, (Below.heap_setCell _ _ _ g (by show g ≠ b; omega)).trans h3, h4⟩

theorem cell_seven_new (w : World) (A B C D E F G : Value) (t : TypeId) : ∀ (j : Nat) (u : Value), [A, B, C, D, E, F, G][j]? = some u → (w.alloc (.cells #[A, B, C, D, E, F, G] t)).cell? (Addr.add ⟨w.heap.size, 0, none⟩ j) = some u := by
  intro j u h
  match j, h with
  | 0, h => simp at h; subst h; simp [Addr.add]
  | 1, h => simp at h; subst h; simp [Addr.add]
  | 2, h => simp at h; subst h; simp [Addr.add]
  | 3, h => simp at h; subst h; simp [Addr.add]
  | 4, h => simp at h; subst h; simp [Addr.add]
  | 5, h => simp at h; subst h; simp [Addr.add]
  | 6, h => simp at h; subst h; simp [Addr.add]
  | j + 7, h => simp at h
/-- Between two lines. -/
structure PS (w W : World) (lv sv : Value) (ls : List Ln) (vs : List Value) (ss : List Nat) : Prop where
  r0 : Blk W w.heap.size 59 #[.pointer none]
  r1 : Blk W (w.heap.size + 1) 33 #[.nilIface]
  r2 : Blk W (w.heap.size + 1 + 1) 54 #[lv]
  r3 : Blk W (w.heap.size + 1 + 1 + 1) 22 #[sv]
  lrow : W.ownsRow (w.heap.size + 1 + 1 + 1 + 1 + 1) 76 7 lv ls.length (lnCells ls vs)
  srow : W.ownsRow (w.heap.size + 1 + 1 + 1 + 1 + 1) 3 1 sv ss.length (icells (ss.map fun (k : Nat) => (k : Int)))
  rg : RgsAt W ls vs
  nl : RgN ls vs lv.ownBlock
  ns : RgN ls vs sv.ownBlock
  lo : ∀ k, k < w.heap.size + 1 + 1 + 1 + 1 + 1 → RgN ls vs (some k)
  B : Below w.heap.size w W
  sz : w.heap.size + 1 + 1 + 1 + 1 + 1 ≤ W.heap.size
theorem PS.step {w W W' : World} {lv sv : Value} {ls : List Ln} {vs : List Value} {ss : List Nat} (h : PS w W lv sv ls vs ss) (hb : Below W.heap.size W W') : PS w W' lv sv ls vs ss :=
  ⟨h.r0.below hb h.r0.lt, h.r1.below hb h.r1.lt, h.r2.below hb h.r2.lt, h.r3.below hb h.r3.lt, row_new' h.lrow hb, row_new' h.srow hb, h.rg.below hb (Nat.le_refl _), h.nl, h.ns, h.lo, h.B.trans (hb.mono h.B.size), Nat.le_trans h.sz hb.size⟩
theorem PS.own {w : World} (B : Nat) (hB : w.heap.size ≤ B) (Φ : List Pc → List Ln → List Nat → Prop) : OwnFrom B (fun (pre : List Pc) W => ∃ lv sv ls vs ss, Φ pre ls ss ∧ PS w W lv sv ls vs ss) := by
  intro pre W W' row ⟨lv, sv, ls, vs, ss, hΦ, h⟩ hg hr
  have hr' : ∀ r, row = some r → ∃ o : Obj, W.heap[r]? = some o ∧ o.isCells = false := fun r e => (hr r e).2
  exact ⟨lv, sv, ls, vs, ss, hΦ, ⟨blk_kept h.r0 hg hr', blk_kept h.r1 hg hr', blk_kept h.r2 hg hr', blk_kept h.r3 hg hr', row_keptO h.lrow hg hr', row_keptO h.srow hg hr', h.rg.keptO hg hr', h.nl, h.ns, h.lo, ownFrom_below (β := Unit) (Nat.le_refl _) hB () W W' row h.B hg hr, Nat.le_trans h.sz hg.size⟩⟩
theorem PS.appL {w W w' : World} {lv lv' sv v : Value} {ls : List Ln} {vs : List Value} {ss : List Nat} {x : Ln} (h : PS w W lv sv ls vs ss) (hv : SpAt W v x.rng) (hrg : Rg x.rng) (hn : 0 < x.rng.length → ∀ g, v.ownBlock = some g → w.heap.size + 1 + 1 + 1 + 1 + 1 ≤ g ∧ some g ≠ lv.ownBlock ∧ some g ≠ sv.ownBlock)
    (hown : w'.ownsRow (w.heap.size + 1 + 1 + 1 + 1 + 1) 76 7 lv' (ls.length + 1) (lnCells ls vs ++ encLn x v)) (hg : W.grownBy w' lv.ownBlock) (hloc : lv'.ownBlock = lv.ownBlock ∨ lv'.ownBlock = some W.heap.size) :
    PS w (w'.setCell ⟨w.heap.size + 1 + 1, 0, none⟩ lv') lv' sv (ls ++ [x]) (vs ++ [v]) ss ∧ Blk w' (w.heap.size + 1 + 1) 54 #[lv] ∧ Blk (w'.setCell ⟨w.heap.size + 1 + 1, 0, none⟩ lv') (w.heap.size + 1 + 1 + 1) 22 #[sv] := by
  have hne : ∀ b, b < w.heap.size + 1 + 1 + 1 + 1 + 1 → some b ≠ lv.ownBlock := fun b hb e => by have := (h.lrow.lt b e.symm).1; omega
  have q0 := h.r0.kept hg (hne _ (by omega))
  have q1 := h.r1.kept hg (hne _ (by omega))
  have q2 := h.r2.kept hg (hne _ (by omega))
  have q3 := h.r3.kept hg (hne _ (by omega))
  have hx : 0 < x.rng.length → ∀ g, v.ownBlock = some g → some g ≠ lv.ownBlock := fun h1 g h2 => (hn h1 g h2).2.1
  have rg1 : RgsAt w' (ls ++ [x]) (vs ++ [v]) := (h.rg.grown hg h.nl).snoc (hv.grown hg hx) hrg
  have lo1 : ∀ k, k < w.heap.size + 1 + 1 + 1 + 1 + 1 → RgN (ls ++ [x]) (vs ++ [v]) (some k) := fun k hk => (h.lo k hk).snoc h.rg.1 (fun h1 g h2 e => by have := (hn h1 g h2).1; cases e; omega)
  have srow1 := row_grown' h.srow hg (ownBlocks_ne h.srow h.lrow (by decide))
  have hB : Below w.heap.size w w' := h.B.grown hg h.B.size (fun k hk => by have := (h.lrow.lt k hk).1; omega)
  refine ⟨⟨q0.other (by omega), q1.other (by omega), q2.set (i := 0), q3.other (by omega), ?_, row_setLow srow1 (by omega), rg1.set (lo1 _ (by omega)), ?_, h.ns.snoc h.rg.1 (fun h1 g h2 => (hn h1 g h2).2.2), lo1, hB.setCell (p := ⟨w.heap.size + 1 + 1, 0, none⟩) (by show w.heap.size ≤ w.heap.size + 1 + 1; omega) _, by simp [World.setCell]; exact Nat.le_trans h.sz hg.size⟩, q2, q3.other (by omega)⟩
  · rw [lnCells_snoc _ _ _ _ h.rg.1, List.length_append]
    exact row_setLow hown (by omega)
  · rcases hloc with e | e
    · rw [e]; exact h.nl.snoc h.rg.1 hx
    · rw [e]
      refine (RgN.new h.rg (Nat.le_refl _)).snoc h.rg.1 (fun h1 g h2 e2 => ?_)
      have := hv.lt' h1 h2
      cases e2
      omega
theorem PS.appS {w W w' : World} {lv sv sv' : Value} {ls : List Ln} {vs : List Value} {ss : List Nat} {k : Nat} (h : PS w W lv sv ls vs ss)
    (hown : w'.ownsRow (w.heap.size + 1 + 1 + 1 + 1 + 1) 3 1 sv' (ss.length + 1) (icells (ss.map fun (k : Nat) => (k : Int)) ++ [.int .i64 (k : Int)])) (hg : W.grownBy w' sv.ownBlock) (hloc : sv'.ownBlock = sv.ownBlock ∨ sv'.ownBlock = some W.heap.size) :
    PS w (w'.setCell ⟨w.heap.size + 1 + 1 + 1, 0, none⟩ sv') lv sv' ls vs (ss ++ [k]) ∧ Blk w' (w.heap.size + 1 + 1 + 1) 22 #[sv] := by
  have hne : ∀ b, b < w.heap.size + 1 + 1 + 1 + 1 + 1 → some b ≠ sv.ownBlock := fun b hb e => by have := (h.srow.lt b e.symm).1; omega
  have q0 := h.r0.kept hg (hne _ (by omega))
  have q1 := h.r1.kept hg (hne _ (by omega))
  have q2 := h.r2.kept hg (hne _ (by omega))
  have q3 := h.r3.kept hg (hne _ (by omega))
  have rg1 : RgsAt w' ls vs := h.rg.grown hg h.ns
  have lrow1 := row_grown' h.lrow hg (ownBlocks_ne h.lrow h.srow (by decide))
  have hB : Below w.heap.size w w' := h.B.grown hg h.B.size (fun k hk => by have := (h.srow.lt k hk).1; omega)
  refine ⟨⟨q0.other (by omega), q1.other (by omega), q2.other (by omega), q3.set (i := 0), row_setLow lrow1 (by omega), ?_, rg1.set (h.lo _ (by omega)), h.nl, ?_, h.lo, hB.setCell (p := ⟨w.heap.size + 1 + 1 + 1, 0, none⟩) (by show w.heap.size ≤ w.heap.size + 1 + 1 + 1; omega) _, by simp [World.setCell]; exact Nat.le_trans h.sz hg.size⟩, q3⟩
  · rw [List.map_append, List.length_append]
    have e : icells (List.map (fun (k : Nat) => (k : Int)) ss ++ List.map (fun (k : Nat) => (k : Int)) [k]) = icells (ss.map fun (k : Nat) => (k : Int)) ++ [.int .i64 (k : Int)] := by rw [List.map_cons, List.map_nil, icells_snoc]
    rw [e]
    exact row_setLow hown (by omega)
  · rcases hloc with e | e
    · rw [e]; exact h.ns
    · rw [e]; exact RgN.new h.rg (Nat.le_refl _)
theorem row_cells {W : World} {B t k n : Nat} {v : Value} {cs : List Value} (h : W.ownsRow B t k v n cs) : ∀ (j : Nat) (o : Obj), v.ownBlock = some j → W.heap[j]? = some o → o.isCells = true := by
  intro j o hj ho
  rcases h.2 with ⟨rfl, _⟩ | ⟨g, cap, cur, rfl, _, hg, _⟩
  · simp [Value.ownBlock] at hj
  · simp only [Value.ownBlock, Option.some.injEq] at hj
    subst hj
    rw [hg] at ho
    cases ho
    rfl
theorem kp1_grown {bt : Nat} {W W1 W' : World} {B t k n : Nat} {v : Value} {cs : List Value} (hK : Kp1 bt W W1) (h : W1.ownsRow B t k v n cs) (hg : W1.grownBy W' v.ownBlock) (h1 : bt < B) (h2 : 4 < B) (h3 : bt < W1.heap.size) (h4 : 4 < W1.heap.size) : Kp1 bt W W' := by
  have hne : ∀ b, b < B → some b ≠ v.ownBlock := fun b hb e => by have := (h.lt b e.symm).1; omega
  exact ⟨(grown_cell hg h3 (hne _ h1)).trans hK.1, (grown_cell hg h4 (hne _ h2)).trans hK.2⟩
theorem CatV.set {w : World} {b : Nat} {ls : List Ln} {vs : List Value} {its : List It} {B k i : Nat} {x : Value} (h : CatV w b ls vs its B) (hk : k < B) (hn : RgN ls vs (some k)) : CatV (w.setCell ⟨k, i, none⟩ x) b ls vs its B := by
  obtain ⟨lv, iv, bm, h1, h2, h3, h4, h5, h6, h7, h8, h9⟩ := h
  exact ⟨lv, iv, bm, h1.other (by omega), h2.set hn, h3.set (fun g hg => by have := h8 g hg; omega), RowAt.set h4 (fun g hg => by have := h9 g hg; omega), h5.block (Below.heap_setCell _ _ _ _ (by show bm ≠ k; omega)), h6, h7, h8, h9⟩
theorem CatV.putD {w : World} {b D : Nat} {ls : List Ln} {vs : List Value} {its : List It} {B : Nat} {o' : Obj} (h : CatV w b ls vs its B) (hK : ∃ o, w.heap[D]? = some o ∧ o.isCells = false ∧ ∀ es c, o ≠ .map es c) : CatV (w.putObj D o') b ls vs its B := by
  obtain ⟨lv, iv, bm, h1, h2, h3, h4, h5, h6, h7, h8, h9⟩ := h
  obtain ⟨o, ho, hc, hm⟩ := hK
  have hbD : b ≠ D := by
    rintro rfl
    rw [show w.heap[b]? = _ from h1] at ho
    cases ho; cases hc
  have hmD : bm ≠ D := by
    rintro rfl
    obtain ⟨E, n, ⟨es, clock, h10, _⟩, _⟩ := h5
    rw [h10] at ho
    cases ho
    exact hm _ _ rfl
  refine ⟨lv, iv, bm, h1.put hbD, h2.keptO (grownBy_putObj' _ D o') (fun r e => by cases e; exact ⟨_, ho, hc⟩), h3.put ho hc (fun h => ?_), RowAt.put h4 ho hc (fun h => ?_), h5.block (World.putObj_heap_other hmD), h6, h7, h8, h9⟩
  · rw [lnCells_length _ _ h2.1] at h; omega
  · rw [itCells_length] at h; omega
theorem PS.lns {w W : World} {lv sv : Value} {ls : List Ln} {vs : List Value} {ss : List Nat} (h : PS w W lv sv ls vs ss) : LnsAt W lv ls := ⟨vs, h.rg, rowAt_own h.lrow⟩
end Go.Proofs.YtljeigdkbnichaaGreatDoor
