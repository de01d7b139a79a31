/- without: what lies in memory. -/
import Derived.Test.YtcmmoinkhodjfaaDoorPfAdd
namespace Go.Proofs.YtcmmoinkhodjfaaDoor
open Go.RowKit Go.Deep Go.Maps

def ApartP (u v : Value) : Prop := u.ownBlock = none ∨ u.ownBlock ≠ v.ownBlock
theorem ApartP.symm {u v : Value} (h : ApartP u v) : ApartP v u := by
  unfold ApartP at *
  cases hv : v.ownBlock with
  | none => exact Or.inl rfl
  | some k =>
    refine Or.inr fun e => ?_
    rcases h with h | h
    · rw [h] at e; cases e
    · exact h (e.symm.trans hv.symm)
theorem ApartP.grown {w : World} {B n size N : Nat} {e : TypeId} {xs : List Value} {u v v' : Value} (h : ApartP u v) (hu : w.ownsRow B e size u n xs) (hN : w.heap.size ≤ N) (hl : v'.ownBlock = v.ownBlock ∨ ∃ g, v'.ownBlock = some g ∧ N ≤ g) : ApartP u v' := by
  unfold ApartP at *
  cases hk : u.ownBlock with
  | none => exact Or.inl rfl
  | some k =>
    refine Or.inr fun e' => ?_
    have hlt := (hu.lt k hk).2
    rcases hl with hl | ⟨g, hl, hg⟩
    · rw [hl] at e'
      rcases h with h | h
      · rw [h] at hk; cases hk
      · exact h (hk.trans e')
    · rw [hl] at e'
      injection e' with e'
      omega
theorem apart_ne {u v : Value} (h : ApartP u v) {k : Nat} (hk : u.ownBlock = some k) : v.ownBlock ≠ some k := by
  rcases h with h | h
  · rw [h] at hk; cases hk
  · exact fun e => h (hk.trans e.symm)
theorem row_block {B n size : Nat} {w w' : World} {e : TypeId} {v : Value} {xs : List Value} (h : w.ownsRow B e size v n xs) (hb : ∀ k, v.ownBlock = some k → w'.heap[k]? = w.heap[k]?) : w'.ownsRow B e size v n xs := by
  obtain ⟨h1, h2⟩ := h
  refine ⟨h1, ?_⟩
  rcases h2 with h2 | ⟨g, cap, cur, hv, hg, hh, r⟩
  · exact Or.inl h2
  · exact Or.inr ⟨g, cap, cur, hv, hg, (hb g (by rw [hv]; rfl)).trans hh, r⟩
theorem map_row {B bm n size : Nat} {w : World} {pb : Nat} {l : List (Nat × Nat)} {lV mV v : Value} {e : TypeId} {xs : List Value} (h : PileM B w pb l lV mV) (hr : w.ownsRow B e size v n xs) : mV = .map (some bm) → v.ownBlock ≠ some bm := by
  rintro rfl
  rcases h.map with ⟨_, e2⟩ | ⟨bm', e2, _, hs⟩
  · cases e2
  · cases e2; exact set_row hs hr

/-- The rows of those with it and against it, and the pile of the others. -/
structure W3 (w wr : World) (ws gs lo : List (Nat × Nat)) (wV aV loV moV : Value) : Prop where
  res : Blk wr w.heap.size 93 #[.slice none 0 0, .map none]
  out : PileM w.heap.size wr (w.heap.size + 1) lo loV moV
  wrow : wr.ownsRow w.heap.size 68 2 wV ws.length (scells ws)
  arow : wr.ownsRow w.heap.size 68 2 aV gs.length (scells gs)
  wa : ApartP wV aV
  wl : ApartP wV loV
  al : ApartP aV loV
  below : Below w.heap.size w wr
section
variable {w wr wr' : World} {ws gs lo : List (Nat × Nat)} {wV aV loV moV : Value}
theorem W3.new (h : W3 w wr ws gs lo wV aV loV moV) (hb : Below wr.heap.size wr wr') : W3 w wr' ws gs lo wV aV loV moV :=
  ⟨h.res.below hb h.res.lt, h.out.new hb, row_new' h.wrow hb, row_new' h.arow hb, h.wa, h.wl, h.al, h.below.trans (hb.mono h.below.size)⟩
theorem W3.grow_w {wV' : Value} {c : Nat × Nat} (h : W3 w wr ws gs lo wV aV loV moV) (hown : wr'.ownsRow w.heap.size 68 2 wV' (ws.length + 1) (scells ws ++ [.int .u64 (c.1 : Int), .int .u64 (c.2 : Int)])) (hg : wr.grownBy wr' wV.ownBlock) (hl : wV'.ownBlock = wV.ownBlock ∨ wV'.ownBlock = some wr.heap.size) : W3 w wr' (ws ++ [c]) gs lo wV' aV loV moV := by
  have hk : ∀ k, k < wr.heap.size → wV.ownBlock ≠ some k → wr'.heap[k]? = wr.heap[k]? := fun k h1 h2 => hg.block k h1 (fun e => h2 e.symm)
  have hl' : wV'.ownBlock = wV.ownBlock ∨ ∃ g, wV'.ownBlock = some g ∧ wr.heap.size ≤ g := hl.imp id (fun e => ⟨_, e, Nat.le_refl _⟩)
  refine ⟨(hk _ h.res.lt (ownBlock_ne' h.wrow h.res (by decide))).trans h.res, h.out.block fun k hkk => hk k (h.out.lt k hkk) ?_, by rw [scells_snoc]; simpa using hown, row_block h.arow fun k e => hk k (h.arow.lt k e).2 (apart_ne h.wa.symm e), (h.wa.symm.grown h.arow (Nat.le_refl _) hl').symm, (h.wl.symm.grown h.out.row (Nat.le_refl _) hl').symm, h.al, ?_⟩
  · rcases hkk with rfl | e | e
    · exact ownBlock_ne' h.wrow h.out.blk (by decide)
    · exact apart_ne h.wl.symm e
    · exact map_row h.out h.wrow e
  · exact h.below.grown hg h.below.size (fun k hk => (h.wrow.lt k hk).1)
theorem W3.grow_a {aV' : Value} {c : Nat × Nat} (h : W3 w wr ws gs lo wV aV loV moV) (hown : wr'.ownsRow w.heap.size 68 2 aV' (gs.length + 1) (scells gs ++ [.int .u64 (c.1 : Int), .int .u64 (c.2 : Int)])) (hg : wr.grownBy wr' aV.ownBlock) (hl : aV'.ownBlock = aV.ownBlock ∨ aV'.ownBlock = some wr.heap.size) : W3 w wr' ws (gs ++ [c]) lo wV aV' loV moV := by
  have hk : ∀ k, k < wr.heap.size → aV.ownBlock ≠ some k → wr'.heap[k]? = wr.heap[k]? := fun k h1 h2 => hg.block k h1 (fun e => h2 e.symm)
  have hl' : aV'.ownBlock = aV.ownBlock ∨ ∃ g, aV'.ownBlock = some g ∧ wr.heap.size ≤ g := hl.imp id (fun e => ⟨_, e, Nat.le_refl _⟩)
  refine ⟨(hk _ h.res.lt (ownBlock_ne' h.arow h.res (by decide))).trans h.res, h.out.block fun k hkk => hk k (h.out.lt k hkk) ?_, row_block h.wrow fun k e => hk k (h.wrow.lt k e).2 (apart_ne h.wa e), by rw [scells_snoc]; simpa using hown, h.wa.grown h.wrow (Nat.le_refl _) hl', h.wl, (h.al.symm.grown h.out.row (Nat.le_refl _) hl').symm, ?_⟩
  · rcases hkk with rfl | e | e
    · exact ownBlock_ne' h.arow h.out.blk (by decide)
    · exact apart_ne h.al.symm e
    · exact map_row h.out h.arow e
  · exact h.below.grown hg h.below.size (fun k hk => (h.arow.lt k hk).1)
theorem W3.add {lo' : List (Nat × Nat)} (h : W3 w wr ws gs lo wV aV loV moV) (hr : AddR w.heap.size wr (w.heap.size + 1) loV moV lo' wr') : ∃ loV' moV', W3 w wr' ws gs lo' wV aV loV' moV' ∧ ∀ bx t cs, Blk wr bx t cs → bx ≠ w.heap.size + 1 → loV.ownBlock ≠ some bx → moV ≠ .map (some bx) → Blk wr' bx t cs ∧ loV'.ownBlock ≠ some bx ∧ moV' ≠ .map (some bx) := by
  obtain ⟨⟨loV', moV', hp, hn1, hn2⟩, hb, hf⟩ := hr
  have hne : w.heap.size ≠ w.heap.size + 1 := by omega
  have hfr : ∀ k, k < wr.heap.size → k ≠ w.heap.size + 1 → loV.ownBlock ≠ some k → moV ≠ .map (some k) → wr'.heap[k]? = wr.heap[k]? := hf
  have hmw : ∀ {v : Value} {n : Nat} {xs : List Value}, wr.ownsRow w.heap.size 68 2 v n xs → ApartP v loV → ∀ k, v.ownBlock = some k → wr'.heap[k]? = wr.heap[k]? := fun {v n xs} hrow hap k e => by
    refine hfr k (hrow.lt k e).2 (fun e2 => ?_) (apart_ne hap e) (fun e2 => map_row h.out hrow e2 e)
    subst e2
    exact ownBlock_ne' hrow h.out.blk (by decide) e
  refine ⟨loV', moV', ⟨(hfr _ h.res.lt hne (ownBlock_ne' h.out.row h.res (by decide)) (fun e => ?_)).trans h.res, hp, row_block h.wrow (hmw h.wrow h.wl), row_block h.arow (hmw h.arow h.al), h.wa, h.wl.grown h.wrow (Nat.le_refl _) hn1, h.al.grown h.arow (Nat.le_refl _) hn1, h.below.trans hb⟩, fun bx t cs hbx h1 h2 h3 => ⟨(hfr bx hbx.lt h1 h2 h3).trans hbx, fun e => ?_, fun e => ?_⟩⟩
  rotate_left
  · have hl := hbx.lt
    rcases hn1 with q | ⟨g, q, hg⟩
    · rw [q] at e; exact h2 e
    · rw [q] at e; injection e; omega
  · have hl := hbx.lt
    rcases hn2 with q | ⟨g, q, hg⟩
    · rw [q] at e; exact h3 e
    · rw [q] at e; injection e with e; injection e; omega
  rcases h.out.map with ⟨_, e2⟩ | ⟨bm, e2, _, hs⟩
  · rw [e2] at e; cases e
  · rw [e2] at e
    cases e
    exact set_ne hs h.res rfl
end
/-- The end: the pile of the others is what comes out. -/
theorem W3.fin {w wr : World} {ws gs lo : List (Nat × Nat)} {wV aV loV moV : Value} (h : W3 w wr ws gs lo wV aV loV moV) :
    let X := (wr.setCell ⟨w.heap.size, 0, none⟩ loV).setCell ⟨w.heap.size, 1, none⟩ moV
    Blk X w.heap.size 93 #[loV, moV] ∧ X.ownsRow w.heap.size 68 2 loV lo.length (scells lo) ∧ ((lo = [] ∧ moV = .map none) ∨ ∃ bm, moV = .map (some bm) ∧ w.heap.size ≤ bm ∧ SetAt X bm lo) ∧ Below w.heap.size w X := by
  have h1 := h.res.set (i := 0) (v := loV)
  have h2 := h1.set (i := 1) (v := moV)
  have hr1 := ownsRow_setCell_other h.out.row (a := ⟨w.heap.size, 0, none⟩) (ownBlock_ne' h.out.row h.res (by decide)) loV
  have hr2 := ownsRow_setCell_other hr1 (a := ⟨w.heap.size, 1, none⟩) (ownBlock_ne' hr1 h1 (by decide)) moV
  refine ⟨h2, hr2, ?_, (h.below.setCell (Nat.le_refl _) _).setCell (Nat.le_refl _) _⟩
  rcases h.out.map with h3 | ⟨bm, e, hB, hs⟩
  · exact Or.inl h3
  · have hne : bm ≠ w.heap.size := fun e => set_ne hs h.res e.symm
    exact Or.inr ⟨bm, e, hB, (hs.block (Below.heap_setCell _ _ _ bm hne)).block (Below.heap_setCell _ _ _ bm hne)⟩
theorem W3.start (w : World) : W3 w ((w.alloc (.cells #[.slice none 0 0, .map none] 93)).alloc (.cells #[.slice none 0 0, .map none] 93)) [] [] [] (.slice none 0 0) (.slice none 0 0) (.slice none 0 0) (.map none) := by
  have h1 := (Blk.new w 93 #[.slice none 0 0, .map none]).alloc (.cells #[.slice none 0 0, .map none] 93)
  have h2 := Blk.new (w.alloc (.cells #[.slice none 0 0, .map none] 93)) 93 #[.slice none 0 0, .map none]
  rw [World.size_alloc] at h2
  exact ⟨h1, ⟨h2, World.ownsRow_nil _ _ _ _, Or.inl ⟨rfl, rfl⟩, fun s hs => by cases hs⟩, World.ownsRow_nil _ _ _ _, World.ownsRow_nil _ _ _ _, Or.inl rfl, Or.inl rfl, Or.inl rfl, (below_new w _).alloc (by simp) _⟩

theorem takeS {l : List (Nat × Nat)} {j : Nat} (h : j < l.length) : l.take (j + 1) = l.take j ++ [l.getD j (0, 0)] := by
  rw [List.take_add_one, List.getElem?_eq_getElem h, List.getD_eq_getElem?_getD, List.getElem?_eq_getElem h]; rfl
theorem filterS {p : Nat × Nat → Bool} {l : List (Nat × Nat)} {j : Nat} (h : j < l.length) : (l.take (j + 1)).filter p = (l.take j).filter p ++ (if p (l.getD j (0, 0)) = true then [l.getD j (0, 0)] else []) := by
  rw [takeS h, List.filter_append]
  generalize l.getD j (0, 0) = s
  cases hp : p s <;> simp [hp]
theorem adds_le (l cs : List (Nat × Nat)) : (addsF l cs).length ≤ l.length + cs.length := by
  unfold addsF
  induction cs generalizing l with
  | nil => simp
  | cons d cs ih =>
    rw [List.foldl_cons]
    have h1 := ih (addF l d)
    have h2 := (add_len l d).2
    rw [List.length_cons]
    omega
/-- A row read: where it lies. -/
theorem srow_cells {B : Nat} {w : World} {a : Option Addr} {c : Nat} {l : List (Nat × Nat)} (h : w.ownsRow B 68 2 (.slice a l.length c) l.length (scells l)) {k : Nat} (hk : k < l.length) : ∃ g, a = some ⟨g, 0, none⟩ ∧ g < w.heap.size ∧ w.cell? ⟨g, k * 2, none⟩ = some (.int .u64 ((l.getD k (0, 0)).1 : Int)) ∧ w.cell? ⟨g, k * 2 + 1, none⟩ = some (.int .u64 ((l.getD k (0, 0)).2 : Int)) := by
  rcases h.2 with ⟨e, e0⟩ | ⟨g, cap, cur, e, hB, hg, -⟩
  · omega
  · injection e with e1 e2 e3
    subst e1 e3
    have h0 := h.cellAt (k * 2) (by omega)
    have h1 := h.cellAt (k * 2 + 1) (by omega)
    rw [(scells_at hk).1] at h0
    rw [(scells_at hk).2] at h1
    exact ⟨g, rfl, (Array.getElem?_eq_some_iff.1 hg).1, h0, h1⟩
theorem srow_form {B n : Nat} {w : World} {v : Value} {cs : List Value} (h : w.ownsRow B 68 2 v n cs) : ∃ a c, v = .slice a n c ∧ n ≤ c ∧ c ≤ 9223372036854775807 := by
  rcases h.2 with ⟨e, e0⟩ | ⟨g, cap, cur, e, -, -, h1, h2, -⟩
  · exact ⟨none, 0, by rw [e, e0], by omega, by omega⟩
  · unfold maxLen at h2; exact ⟨_, _, e, h1, h2⟩
end Go.Proofs.YtcmmoinkhodjfaaDoor
