/- Lines of the program and of the reference, in two rows that grow side by side. -/
import Derived.Test.YtmhophccdfmngaaGreatDoorCtLine
import Derived.Test.YtmhophccdfmngaaGreatDoorCtNew
import Derived.Maps.OwnIn
import Derived.Sort.CutIn
import Derived.Test.YtmhophccdfmngaaGreatDoorRlCat
import Derived.Test.YtmhophccdfmngaaGreatDoorSvNs
import Derived.Test.YtmhophccdfmngaaGreatDoorRlLine
import Derived.Test.YtmhophccdfmngaaGreatDoorSvShelfC
import Derived.Test.YtmhophccdfmngaaGreatDoorSvRTxt
namespace Go.Proofs.YtmhophccdfmngaaGreatDoor
section
open Go.RowKit Go.Deep Go.Shelf Sv
def RgN (ls : List Ln) (vs : List Value) (b : Option Nat) : Prop := ∀ i, i < ls.length -> 0 < (ls.getD i default).rng.length -> ∀ g, (vs.getD i undef).ownBlock = some g -> some g ≠ b
theorem RgN.nil (b : Option Nat) : RgN [] [] b := fun i h => by simp at h
theorem RgN.none (ls : List Ln) (vs : List Value) : RgN ls vs none := fun _ _ _ _ _ h => by cases h
theorem SpAt.lt' {w : World} {v : Value} {l : List Span} (h : SpAt w v l) (hl : 0 < l.length) {g : Nat} (hg : v.ownBlock = some g) : g < w.heap.size := by
 obtain ⟨g', cap, e, hlt, _⟩ := h.cells 0 hl
 rw [e] at hg
 simp [Value.ownBlock] at hg
 omega
theorem RgN.new {W : World} {ls : List Ln} {vs : List Value} (h : RgsAt W ls vs) {b : Nat} (hb : W.heap.size <= b) : RgN ls vs (some b) := fun i hi hl g hg e => by
 have := (h.2 i hi).1.lt' hl hg
 cases e
 omega
theorem RgN.snoc {ls : List Ln} {vs : List Value} {b : Option Nat} (h : RgN ls vs b) (hv : vs.length = ls.length) {x : Ln} {v : Value} (hx : 0 < x.rng.length -> ∀ g, v.ownBlock = some g -> some g ≠ b) : RgN (ls ++ [x]) (vs ++ [v]) b := by
 intro i hi
 by_cases hl : i < ls.length
 ·have e1 : (ls ++ [x]).getD i default = ls.getD i default := by simp [List.getD_eq_getElem?_getD, List.getElem?_append_left hl]
  have e2 : (vs ++ [v]).getD i undef = vs.getD i undef := by simp [List.getD_eq_getElem?_getD, List.getElem?_append_left (show i < vs.length by rw [hv]; exact hl)]
  rw [e1, e2]; exact h i hl
 ·obtain rfl : i = ls.length := by simp at hi; omega
  have e1 : (ls ++ [x]).getD ls.length default = x := by simp [List.getD_eq_getElem?_getD]
  have e2 : (vs ++ [v]).getD ls.length undef = v := by simp [List.getD_eq_getElem?_getD, <- hv]
  rw [e1, e2]; exact hx
theorem SpAt.grown {W W' : World} {v : Value} {l : List Span} {row : Option Nat} (h : SpAt W v l) (hg : W.grownBy W' row) (hn : 0 < l.length -> ∀ g, v.ownBlock = some g -> some g ≠ row) : SpAt W' v l :=
 ⟨h.form, fun i hi => by
  obtain ⟨g, cap, e, hlt, c0, c1⟩ := h.cells i hi
  have hne := hn (by omega) g (by rw [e]; rfl)
  exact ⟨g, cap, e, Nat.lt_of_lt_of_le hlt hg.size, (grown_cell hg hlt hne).trans c0, (grown_cell hg hlt hne).trans c1⟩⟩
theorem RgsAt.grown {W W' : World} {ls : List Ln} {vs : List Value} {row : Option Nat} (h : RgsAt W ls vs) (hg : W.grownBy W' row) (hn : RgN ls vs row) : RgsAt W' ls vs := ⟨h.1, fun i hi => ⟨(h.2 i hi).1.grown hg (hn i hi), (h.2 i hi).2⟩⟩
theorem SpAt.one' {W : World} {b : Nat} {v x : Value} {l : List Span} {i : Nat} (h : SpAt W v l) (hn : 0 < l.length -> ∀ g, v.ownBlock = some g -> some g ≠ some b) : SpAt (W.setCell ⟨b, i, none⟩ x) v l :=
 ⟨h.form, fun j hj => by
  obtain ⟨g, cap, e, hg, c0, c1⟩ := h.cells j hj
  have hne : g ≠ b := fun e' => hn (by omega) g (by rw [e]; rfl) (by rw [e'])
  exact ⟨g, cap, e, by simp [World.setCell]; exact hg, (cell_set_other hne).trans c0, (cell_set_other hne).trans c1⟩⟩
theorem RgsAt.set {W : World} {ls : List Ln} {vs : List Value} {b i : Nat} {x : Value} (h : RgsAt W ls vs) (hn : RgN ls vs (some b)) : RgsAt (W.setCell ⟨b, i, none⟩ x) ls vs := ⟨h.1, fun j hj => ⟨(h.2 j hj).1.one' (hn j hj), (h.2 j hj).2⟩⟩
theorem RgsAt.keptO {W W' : World} {ls : List Ln} {vs : List Value} {row : Option Nat} (h : RgsAt W ls vs) (hg : W.grownBy W' row) (hr : ∀ r, row = some r -> ∃ o : Obj, W.heap[r]? = some o /\ o.isCells = false) : RgsAt W' ls vs := ⟨h.1, fun i hi => ⟨spAt_kept (h.2 i hi).1 hg hr, (h.2 i hi).2⟩⟩
theorem row_keptO {W W' : World} {B t k n : Nat} {v : Value} {cs : List Value} {row : Option Nat} (h : W.ownsRow B t k v n cs) (hg : W.grownBy W' row) (hr : ∀ r, row = some r -> ∃ o : Obj, W.heap[r]? = some o /\ o.isCells = false) : W'.ownsRow B t k v n cs := by
 obtain ⟨h1, h2⟩ := h
 refine ⟨h1, ?_⟩
 rcases h2 with h2 | ⟨g, cap, cur, rfl, hB, hh, r⟩
 ·exact Or.inl h2
 ·refine Or.inr ⟨g, cap, cur, rfl, hB, (hg.block g (Array.getElem?_eq_some_iff.1 hh).1 (fun e => ?_)).trans hh, r⟩
  obtain ⟨o, ho, hc⟩ := hr g e.symm
  rw [hh] at ho
  cases ho; cases hc
theorem row_grown' {W W' : World} {B t k n : Nat} {v : Value} {cs : List Value} {row : Option Nat} (h : W.ownsRow B t k v n cs) (hg : W.grownBy W' row) (hne : v.ownBlock = none \/ v.ownBlock ≠ row) : W'.ownsRow B t k v n cs := by
 obtain ⟨h1, h2⟩ := h
 refine ⟨h1, ?_⟩
 rcases h2 with h2 | ⟨g, cap, cur, rfl, hB, hh, r⟩
 ·exact Or.inl h2
 ·refine Or.inr ⟨g, cap, cur, rfl, hB, (hg.block g (Array.getElem?_eq_some_iff.1 hh).1 (fun e => ?_)).trans hh, r⟩
  rcases hne with h | h
  ·simp [Value.ownBlock] at h
  ·exact h e
theorem row_setLow {W : World} {B t k n b i : Nat} {v x : Value} {cs : List Value} (h : W.ownsRow B t k v n cs) (hb : b < B) : (W.setCell ⟨b, i, none⟩ x).ownsRow B t k v n cs := by
 refine ⟨h.1, ?_⟩
 rcases h.2 with h1 | ⟨g, cap, cur, h1, h2, h3, h4⟩
 ·exact .inl h1
 ·exact .inr ⟨g, cap, cur, h1, h2, (Below.heap_setCell _ _ _ g (by show g ≠ b; omega)).trans h3, h4⟩
structure PS (w W : World) (lv sv : Value) (ls : List Ln) (vs : List Value) (ss : List Nat) : Prop where
 r0 : Blk W w.heap.size 59 #[.pointer none]
 r1 : Blk W (w.heap.size + 1) 33 #[.nilIface]
 r2 : Blk W (w.heap.size + 1 + 1) 54 #[lv]
 r3 : Blk W (w.heap.size + 1 + 1 + 1) 22 #[sv]
 lrow : W.ownsRow (w.heap.size + 1 + 1 + 1 + 1 + 1) 76 7 lv ls.length (lnCells ls vs)
 srow : W.ownsRow (w.heap.size + 1 + 1 + 1 + 1 + 1) 3 1 sv ss.length (icells (ss.map fun (k : Nat) => (k : Int)))
 rg : RgsAt W ls vs
 nl : RgN ls vs lv.ownBlock
 ns : RgN ls vs sv.ownBlock
 lo : ∀ k, k < w.heap.size + 1 + 1 + 1 + 1 + 1 -> RgN ls vs (some k)
 B : Below w.heap.size w W
 sz : w.heap.size + 1 + 1 + 1 + 1 + 1 <= W.heap.size
theorem PS.step {w W W' : World} {lv sv : Value} {ls : List Ln} {vs : List Value} {ss : List Nat} (h : PS w W lv sv ls vs ss) (hb : Below W.heap.size W W') : PS w W' lv sv ls vs ss :=
 ⟨h.r0.below hb h.r0.lt, h.r1.below hb h.r1.lt, h.r2.below hb h.r2.lt, h.r3.below hb h.r3.lt, row_new' h.lrow hb, row_new' h.srow hb, h.rg.below hb (Nat.le_refl _), h.nl, h.ns, h.lo, h.B.trans (hb.mono h.B.size), Nat.le_trans h.sz hb.size⟩
theorem PS.own {w : World} (B : Nat) (hB : w.heap.size <= B) (Φ : List Pc -> List Ln -> List Nat -> Prop) : OwnFrom B (fun (pre : List Pc) W => ∃ lv sv ls vs ss, Φ pre ls ss /\ PS w W lv sv ls vs ss) := by
 intro pre W W' row ⟨lv, sv, ls, vs, ss, hΦ, h⟩ hg hr
 have hr' : ∀ r, row = some r -> ∃ o : Obj, W.heap[r]? = some o /\ o.isCells = false := fun r e => (hr r e).2
 exact ⟨lv, sv, ls, vs, ss, hΦ, ⟨blk_kept h.r0 hg hr', blk_kept h.r1 hg hr', blk_kept h.r2 hg hr', blk_kept h.r3 hg hr', row_keptO h.lrow hg hr', row_keptO h.srow hg hr', h.rg.keptO hg hr', h.nl, h.ns, h.lo, ownFrom_below (β := Unit) (Nat.le_refl _) hB () W W' row h.B hg hr, Nat.le_trans h.sz hg.size⟩⟩
theorem PS.appL {w W w' : World} {lv lv' sv v : Value} {ls : List Ln} {vs : List Value} {ss : List Nat} {x : Ln} (h : PS w W lv sv ls vs ss) (hv : SpAt W v x.rng) (hrg : Rg x.rng) (hn : 0 < x.rng.length -> ∀ g, v.ownBlock = some g -> w.heap.size + 1 + 1 + 1 + 1 + 1 <= g /\ some g ≠ lv.ownBlock /\ some g ≠ sv.ownBlock)
  (hown : w'.ownsRow (w.heap.size + 1 + 1 + 1 + 1 + 1) 76 7 lv' (ls.length + 1) (lnCells ls vs ++ encLn x v)) (hg : W.grownBy w' lv.ownBlock) (hloc : lv'.ownBlock = lv.ownBlock \/ lv'.ownBlock = some W.heap.size) :
  PS w (w'.setCell ⟨w.heap.size + 1 + 1, 0, none⟩ lv') lv' sv (ls ++ [x]) (vs ++ [v]) ss /\ Blk w' (w.heap.size + 1 + 1) 54 #[lv] /\ Blk (w'.setCell ⟨w.heap.size + 1 + 1, 0, none⟩ lv') (w.heap.size + 1 + 1 + 1) 22 #[sv] := by
 have hne : ∀ b, b < w.heap.size + 1 + 1 + 1 + 1 + 1 -> some b ≠ lv.ownBlock := fun b hb e => by have := (h.lrow.lt b e.symm).1; omega
 have q0 := h.r0.kept hg (hne _ (by omega))
 have q1 := h.r1.kept hg (hne _ (by omega))
 have q2 := h.r2.kept hg (hne _ (by omega))
 have q3 := h.r3.kept hg (hne _ (by omega))
 have hx : 0 < x.rng.length -> ∀ g, v.ownBlock = some g -> some g ≠ lv.ownBlock := fun h1 g h2 => (hn h1 g h2).2.1
 have rg1 : RgsAt w' (ls ++ [x]) (vs ++ [v]) := (h.rg.grown hg h.nl).snoc (hv.grown hg hx) hrg
 have lo1 : ∀ k, k < w.heap.size + 1 + 1 + 1 + 1 + 1 -> RgN (ls ++ [x]) (vs ++ [v]) (some k) := fun k hk => (h.lo k hk).snoc h.rg.1 (fun h1 g h2 e => by have := (hn h1 g h2).1; cases e; omega)
 have srow1 := row_grown' h.srow hg (ownBlocks_ne h.srow h.lrow (by decide))
 have hB : Below w.heap.size w w' := h.B.grown hg h.B.size (fun k hk => by have := (h.lrow.lt k hk).1; omega)
 refine ⟨⟨q0.other (by omega), q1.other (by omega), q2.set (i := 0), q3.other (by omega), ?_, row_setLow srow1 (by omega), rg1.set (lo1 _ (by omega)), ?_, h.ns.snoc h.rg.1 (fun h1 g h2 => (hn h1 g h2).2.2), lo1, hB.setCell (p := ⟨w.heap.size + 1 + 1, 0, none⟩) (by show w.heap.size <= w.heap.size + 1 + 1; omega) _, by simp [World.setCell]; exact Nat.le_trans h.sz hg.size⟩, q2, q3.other (by omega)⟩
 ·rw [lnCells_snoc _ _ _ _ h.rg.1, List.length_append]
  exact row_setLow hown (by omega)
 ·rcases hloc with e | e
  ·rw [e]; exact h.nl.snoc h.rg.1 hx
  ·rw [e]
   refine (RgN.new h.rg (Nat.le_refl _)).snoc h.rg.1 (fun h1 g h2 e2 => ?_)
   have := hv.lt' h1 h2
   cases e2
   omega
theorem CatV.set {w : World} {b : Nat} {ls : List Ln} {vs : List Value} {its : List It} {B k i : Nat} {x : Value} (h : CatV w b ls vs its B) (hk : k < B) (hn : RgN ls vs (some k)) : CatV (w.setCell ⟨k, i, none⟩ x) b ls vs its B := by
 obtain ⟨lv, iv, bm, h1, h2, h3, h4, h5, h6, h7, h8, h9⟩ := h
 exact ⟨lv, iv, bm, h1.other (by omega), h2.set hn, h3.set (fun g hg => by have := h8 g hg; omega), RowAt.set h4 (fun g hg => by have := h9 g hg; omega), h5.block (Below.heap_setCell _ _ _ _ (by show bm ≠ k; omega)), h6, h7, h8, h9⟩
end
section
open Go.RowKit Go.Deep Go.Shelf Sv
theorem infoRLn : (Tryz.prog.info? 79).map (fun i => (i.zero, i.size, i.bytes)) = some (some (.agg #[.int .i64 0, .string ⟨#[]⟩, .int .i64 0, .int .i64 0, .int .i64 0, .string ⟨#[]⟩, .slice none 0 0]), 7, 88) := by kernel_rfl
theorem tp_len (l : List Span) : (tp l).length = 2 * l.length := by
 induction l with
 | nil => rfl
 | cons s r ih => simp only [tp, List.length_cons, ih]; omega
def RgsR (W : World) (ls : List Ln) (vs : List Value) : Prop := vs.length = ls.length /\ ∀ i, i < ls.length -> NsAt W (vs.getD i undef) (tp (ls.getD i default).rng) /\ Rg (ls.getD i default).rng
theorem RgsR.below {B : Nat} {w w' : World} {l : List Ln} {vs : List Value} (h : RgsR w l vs) (hb : Below B w w') (hB : w.heap.size <= B) : RgsR w' l vs := ⟨h.1, fun i hi => ⟨(h.2 i hi).1.below hb hB, (h.2 i hi).2⟩⟩
theorem rgsR_nil (w : World) : RgsR w [] [] := ⟨rfl, fun i h => by simp at h⟩
theorem NsAt.lt' {w : World} {v : Value} {l : List Span} (h : NsAt w v (tp l)) (hl : 0 < l.length) {g : Nat} (hg : v.ownBlock = some g) : g < w.heap.size := by
 obtain ⟨g', cap, e, hlt, _⟩ := h.cells 0 (by rw [tp_len]; omega)
 rw [e] at hg
 simp [Value.ownBlock] at hg
 omega
theorem RgN.newR {W : World} {ls : List Ln} {vs : List Value} (h : RgsR W ls vs) {b : Nat} (hb : W.heap.size <= b) : RgN ls vs (some b) := fun i hi hl g hg e => by
 have := (h.2 i hi).1.lt' hl hg
 cases e
 omega
theorem NsAt.grown {W W' : World} {v : Value} {l : List Span} {row : Option Nat} (h : NsAt W v (tp l)) (hg : W.grownBy W' row) (hn : 0 < l.length -> ∀ g, v.ownBlock = some g -> some g ≠ row) : NsAt W' v (tp l) :=
 ⟨h.form, fun i hi => by
  obtain ⟨g, cap, e, hlt, c0⟩ := h.cells i hi
  have hne := hn (by rw [tp_len] at hi; omega) g (by rw [e]; rfl)
  exact ⟨g, cap, e, Nat.lt_of_lt_of_le hlt hg.size, (grown_cell hg hlt hne).trans c0⟩⟩
theorem RgsR.grown {W W' : World} {ls : List Ln} {vs : List Value} {row : Option Nat} (h : RgsR W ls vs) (hg : W.grownBy W' row) (hn : RgN ls vs row) : RgsR W' ls vs := ⟨h.1, fun i hi => ⟨(h.2 i hi).1.grown hg (hn i hi), (h.2 i hi).2⟩⟩
theorem RgsR.snoc {w : World} {l : List Ln} {vs : List Value} (h : RgsR w l vs) {x : Ln} {v : Value} (hv : NsAt w v (tp x.rng)) (hr : Rg x.rng) : RgsR w (l ++ [x]) (vs ++ [v]) := by
 refine ⟨by simp [h.1], fun i hi => ?_⟩
 by_cases hl : i < l.length
 ·have e1 : (l ++ [x]).getD i default = l.getD i default := by simp [List.getD_eq_getElem?_getD, List.getElem?_append_left hl]
  have e2 : (vs ++ [v]).getD i undef = vs.getD i undef := by simp [List.getD_eq_getElem?_getD, List.getElem?_append_left (show i < vs.length by rw [h.1]; exact hl)]
  rw [e1, e2]; exact h.2 i hl
 ·obtain rfl : i = l.length := by simp at hi; omega
  have e1 : (l ++ [x]).getD l.length default = x := by simp [List.getD_eq_getElem?_getD]
  have e2 : (vs ++ [v]).getD l.length undef = v := by simp [List.getD_eq_getElem?_getD, <- h.1]
  rw [e1, e2]; exact ⟨hv, hr⟩
structure RPS (W0 W : World) (lv sv : Value) (ls : List Ln) (vs : List Value) (ss : List Nat) : Prop where
 lrow : W.ownsRow W0.heap.size 79 7 lv ls.length (lnCells ls vs)
 srow : W.ownsRow W0.heap.size 3 1 sv ss.length (icells (ss.map fun (k : Nat) => (k : Int)))
 rg : RgsR W ls vs
 nl : RgN ls vs lv.ownBlock
 ns : RgN ls vs sv.ownBlock
 lo : ∀ k, k < W0.heap.size -> RgN ls vs (some k)
 B : Below W0.heap.size W0 W
theorem RPS.start (W0 : World) : RPS W0 W0 (.slice none 0 0) (.slice none 0 0) [] [] [] := ⟨World.ownsRow_nil _ _ _ _, World.ownsRow_nil _ _ _ _, rgsR_nil _, RgN.nil _, RgN.nil _, fun _ _ => RgN.nil _, Below.refl _ _⟩
theorem RPS.step {W0 W W' : World} {lv sv : Value} {ls : List Ln} {vs : List Value} {ss : List Nat} (h : RPS W0 W lv sv ls vs ss) (hb : Below W.heap.size W W') : RPS W0 W' lv sv ls vs ss :=
 ⟨row_new' h.lrow hb, row_new' h.srow hb, h.rg.below hb (Nat.le_refl _), h.nl, h.ns, h.lo, h.B.trans (hb.mono h.B.size)⟩
theorem RPS.appL {W0 W w' : World} {lv lv' sv v : Value} {ls : List Ln} {vs : List Value} {ss : List Nat} {x : Ln} (h : RPS W0 W lv sv ls vs ss) (hv : NsAt W v (tp x.rng)) (hrg : Rg x.rng) (hn : 0 < x.rng.length -> ∀ g, v.ownBlock = some g -> W0.heap.size <= g /\ some g ≠ lv.ownBlock /\ some g ≠ sv.ownBlock)
  (hown : w'.ownsRow W0.heap.size 79 7 lv' (ls.length + 1) (lnCells ls vs ++ encLn x v)) (hg : W.grownBy w' lv.ownBlock) (hloc : lv'.ownBlock = lv.ownBlock \/ lv'.ownBlock = some W.heap.size) : RPS W0 w' lv' sv (ls ++ [x]) (vs ++ [v]) ss := by
 have hx : 0 < x.rng.length -> ∀ g, v.ownBlock = some g -> some g ≠ lv.ownBlock := fun h1 g h2 => (hn h1 g h2).2.1
 have rg1 : RgsR w' (ls ++ [x]) (vs ++ [v]) := (h.rg.grown hg h.nl).snoc (hv.grown hg hx) hrg
 refine ⟨?_, row_grown' h.srow hg (ownBlocks_ne h.srow h.lrow (by decide)), rg1, ?_, h.ns.snoc h.rg.1 (fun h1 g h2 => (hn h1 g h2).2.2), fun k hk => (h.lo k hk).snoc h.rg.1 (fun h1 g h2 e => by have := (hn h1 g h2).1; cases e; omega), h.B.grown hg h.B.size (fun k hk => (h.lrow.lt k hk).1)⟩
 ·rw [lnCells_snoc _ _ _ _ h.rg.1, List.length_append]
  exact hown
 ·rcases hloc with e | e
  ·rw [e]; exact h.nl.snoc h.rg.1 hx
  ·rw [e]
   refine (RgN.newR h.rg (Nat.le_refl _)).snoc h.rg.1 (fun h1 g h2 e2 => ?_)
   have := hv.lt' h1 h2
   cases e2
   omega
theorem NsAt.one' {W : World} {b : Nat} {v x : Value} {l : List Span} {i : Nat} (h : NsAt W v (tp l)) (hn : 0 < l.length -> ∀ g, v.ownBlock = some g -> some g ≠ some b) : NsAt (W.setCell ⟨b, i, none⟩ x) v (tp l) :=
 ⟨h.form, fun j hj => by
  obtain ⟨g, cap, e, hg, c0⟩ := h.cells j hj
  have hne : g ≠ b := fun e' => hn (by rw [tp_len] at hj; omega) g (by rw [e]; rfl) (by rw [e'])
  exact ⟨g, cap, e, by simp [World.setCell]; exact hg, (cell_set_other hne).trans c0⟩⟩
end
section
open Go.RowKit Go.Deep Sv
structure LL (W0 W : World) (lv uv : Value) (ls : List Ln) (vs us : List Value) : Prop where
 lrow : W.ownsRow W0.heap.size 76 7 lv ls.length (lnCells ls vs)
 urow : W.ownsRow W0.heap.size 79 7 uv ls.length (lnCells ls us)
 lrg : RgsAt W ls vs
 urg : RgsR W ls us
 ll : RgN ls vs lv.ownBlock
 lu : RgN ls vs uv.ownBlock
 ul : RgN ls us lv.ownBlock
 uu : RgN ls us uv.ownBlock
 B : Below W0.heap.size W0 W
theorem LL.start (W0 : World) : LL W0 W0 (.slice none 0 0) (.slice none 0 0) [] [] [] := ⟨World.ownsRow_nil _ _ _ _, World.ownsRow_nil _ _ _ _, rgsAt_nil _, rgsR_nil _, RgN.nil _, RgN.nil _, RgN.nil _, RgN.nil _, Below.refl _ _⟩
theorem LL.step {W0 W W' : World} {lv uv : Value} {ls : List Ln} {vs us : List Value} (h : LL W0 W lv uv ls vs us) (hb : Below W.heap.size W W') : LL W0 W' lv uv ls vs us :=
 ⟨row_new' h.lrow hb, row_new' h.urow hb, h.lrg.below hb (Nat.le_refl _), h.urg.below hb (Nat.le_refl _), h.ll, h.lu, h.ul, h.uu, h.B.trans (hb.mono h.B.size)⟩
theorem LL.lform {W0 W : World} {lv uv : Value} {ls : List Ln} {vs us : List Value} (h : LL W0 W lv uv ls vs us) : ∃ a c, lv = .slice a ls.length c := by obtain ⟨a, c, e, _⟩ := (rowAt_own h.lrow).form; exact ⟨a, c, e⟩
theorem LL.uform {W0 W : World} {lv uv : Value} {ls : List Ln} {vs us : List Value} (h : LL W0 W lv uv ls vs us) : ∃ a c, uv = .slice a ls.length c := by obtain ⟨a, c, e, _⟩ := (rowAt_own h.urow).form; exact ⟨a, c, e⟩
structure LM (W0 W : World) (lv uv : Value) (ls : List Ln) (x : Ln) (vs us : List Value) (v u : Value) : Prop where
 lrow : W.ownsRow W0.heap.size 76 7 lv (ls.length + 1) (lnCells (ls ++ [x]) (vs ++ [v]))
 urow : W.ownsRow W0.heap.size 79 7 uv ls.length (lnCells ls us)
 lrg : RgsAt W (ls ++ [x]) (vs ++ [v])
 urg : RgsR W ls us
 ll : RgN (ls ++ [x]) (vs ++ [v]) lv.ownBlock
 lu : RgN (ls ++ [x]) (vs ++ [v]) uv.ownBlock
 ul : RgN ls us lv.ownBlock
 uu : RgN ls us uv.ownBlock
 un : NsAt W u (tp x.rng)
 uo : 0 < x.rng.length -> ∀ g, u.ownBlock = some g -> some g ≠ lv.ownBlock /\ some g ≠ uv.ownBlock
 B : Below W0.heap.size W0 W
theorem LL.appL {W0 W w' : World} {lv lv' uv v u : Value} {ls : List Ln} {vs us : List Value} {x : Ln} (h : LL W0 W lv uv ls vs us) (hv : SpAt W v x.rng) (hu : NsAt W u (tp x.rng)) (hrg : Rg x.rng)
  (hn : 0 < x.rng.length -> ∀ g, v.ownBlock = some g -> some g ≠ lv.ownBlock /\ some g ≠ uv.ownBlock) (hm : 0 < x.rng.length -> ∀ g, u.ownBlock = some g -> some g ≠ lv.ownBlock /\ some g ≠ uv.ownBlock)
  (hown : w'.ownsRow W0.heap.size 76 7 lv' (ls.length + 1) (lnCells ls vs ++ encLn x v)) (hg : W.grownBy w' lv.ownBlock) (hloc : lv'.ownBlock = lv.ownBlock \/ lv'.ownBlock = some W.heap.size) : LM W0 w' lv' uv ls x vs us v u := by
 have hx : 0 < x.rng.length -> ∀ g, v.ownBlock = some g -> some g ≠ lv.ownBlock := fun h1 g h2 => (hn h1 g h2).1
 have hy : 0 < x.rng.length -> ∀ g, u.ownBlock = some g -> some g ≠ lv.ownBlock := fun h1 g h2 => (hm h1 g h2).1
 refine ⟨?_, row_grown' h.urow hg (ownBlocks_ne h.urow h.lrow (by decide)), (h.lrg.grown hg h.ll).snoc (hv.grown hg hx) hrg, h.urg.grown hg h.ul, ?_, h.lu.snoc h.lrg.1 (fun h1 g h2 => (hn h1 g h2).2), ?_, h.uu, hu.grown hg hy, fun h1 g h2 => ⟨?_, (hm h1 g h2).2⟩, h.B.grown hg h.B.size (fun k hk => (h.lrow.lt k hk).1)⟩
 ·rw [lnCells_snoc _ _ _ _ h.lrg.1]
  exact hown
 ·rcases hloc with e | e
  ·rw [e]; exact h.ll.snoc h.lrg.1 hx
  ·rw [e]
   refine (RgN.new h.lrg (Nat.le_refl _)).snoc h.lrg.1 (fun h1 g h2 e2 => ?_)
   have := hv.lt' h1 h2
   cases e2
   omega
 ·rcases hloc with e | e
  ·rw [e]; exact h.ul
  ·rw [e]; exact RgN.newR h.urg (Nat.le_refl _)
 ·rcases hloc with e | e
  ·rw [e]; exact hy h1 g h2
  ·rw [e]
   intro e2
   have := hu.lt' h1 h2
   cases e2
   omega
theorem LM.step {W0 W W' : World} {lv uv : Value} {ls : List Ln} {x : Ln} {vs us : List Value} {v u : Value} (h : LM W0 W lv uv ls x vs us v u) (hb : Below W.heap.size W W') : LM W0 W' lv uv ls x vs us v u :=
 ⟨row_new' h.lrow hb, row_new' h.urow hb, h.lrg.below hb (Nat.le_refl _), h.urg.below hb (Nat.le_refl _), h.ll, h.lu, h.ul, h.uu, h.un.below hb (Nat.le_refl _), h.uo, h.B.trans (hb.mono h.B.size)⟩
theorem LM.appU {W0 W w' : World} {lv uv uv' v u : Value} {ls : List Ln} {vs us : List Value} {x : Ln} (h : LM W0 W lv uv ls x vs us v u) (hrg : Rg x.rng)
  (hown : w'.ownsRow W0.heap.size 79 7 uv' (ls.length + 1) (lnCells ls us ++ encLn x u)) (hg : W.grownBy w' uv.ownBlock) (hloc : uv'.ownBlock = uv.ownBlock \/ uv'.ownBlock = some W.heap.size) : LL W0 w' lv uv' (ls ++ [x]) (vs ++ [v]) (us ++ [u]) := by
 have hy : 0 < x.rng.length -> ∀ g, u.ownBlock = some g -> some g ≠ uv.ownBlock := fun h1 g h2 => (h.uo h1 g h2).2
 have hl : (ls ++ [x]).length = ls.length + 1 := by simp
 refine ⟨by rw [hl]; exact row_grown' h.lrow hg (ownBlocks_ne h.lrow h.urow (by decide)), ?_, h.lrg.grown hg h.lu, (h.urg.grown hg h.uu).snoc (h.un.grown hg hy) hrg, h.ll, ?_, h.ul.snoc h.urg.1 (fun h1 g h2 => (h.uo h1 g h2).1), ?_, h.B.grown hg h.B.size (fun k hk => (h.urow.lt k hk).1)⟩
 ·rw [lnCells_snoc _ _ _ _ h.urg.1, hl]
  exact hown
 ·rcases hloc with e | e
  ·rw [e]; exact h.lu
  ·rw [e]; exact RgN.new h.lrg (Nat.le_refl _)
 ·rcases hloc with e | e
  ·rw [e]; exact h.uu.snoc h.urg.1 hy
  ·rw [e]
   refine (RgN.newR h.urg (Nat.le_refl _)).snoc h.urg.1 (fun h1 g h2 e2 => ?_)
   have := h.un.lt' h1 h2
   cases e2
   omega
end
end Go.Proofs.YtmhophccdfmngaaGreatDoor
