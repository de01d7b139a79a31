/- CatalogLines: the law's walk. -/
import Derived.Test.YtmhophccdfmngaaGreatDoorCtLineB
import Derived.Test.YtmhophccdfmngaaGreatDoorCtLineC
import Derived.Test.YtmhophccdfmngaaGreatDoorCtLineD
import Derived.Test.YtmhophccdfmngaaGreatDoorCtLineE
import Derived.Test.YtmhophccdfmngaaGreatDoorCtLines
import Derived.Test.YtmhophccdfmngaaGreatDoorCtNew
import Derived.Maps.OwnIn
import Derived.Sort.CutIn
import Derived.Test.YtmhophccdfmngaaGreatDoorRlLineA
import Derived.Test.YtmhophccdfmngaaGreatDoorSvParsL
import Derived.Laws.StructEq
import Derived.Laws.Tables
import Derived.Laws.Cover2
namespace Go.Proofs.YtmhophccdfmngaaGreatDoor
open Go.RowKit Sv
theorem line_any (s : ByteArray) (w : World) (hs : s.size <= 100000) (hw : Lw w) : Calls Tryz.prog 45 #[.string s] w (LnRes w (lineF s)) := by
 have h4 := kindF_le (cutF s 32).1
 have h : kindF (cutF s 32).1 = 0 \/ kindF (cutF s 32).1 = 1 \/ kindF (cutF s 32).1 = 2 \/ kindF (cutF s 32).1 = 3 \/ kindF (cutF s 32).1 = 4 := by omega
 unfold lineF
 rcases h with h | h | h | h | h
 ·rw [if_pos h]; exact line_none s w hs hw h
 ·rw [h, if_neg (by omega), if_neg (by omega)]
  exact line_pack s w hs hw h _ rfl
 ·rw [h, if_neg (by omega), if_neg (by omega)]
  exact line_needs s w hs hw h _ rfl
 ·rw [h, if_neg (by omega), if_neg (by omega)]
  exact line_clash s w hs hw h _ rfl
 ·rw [h, if_neg (by omega), if_pos rfl]; exact line_root s w hs hw h
end Go.Proofs.YtmhophccdfmngaaGreatDoor
namespace Go.Proofs.YtmhophccdfmngaaGreatDoor
open Go.RowKit Go.Deep Go.Shelf Sv
def RgN (ls : List Ln) (vs : List Value) (b : Option Nat) : Prop := ∀ i, i < ls.length -> 0 < (ls.getD i default).rng.length -> ∀ g, (vs.getD i undef).ownBlock = some g -> some g ≠ b
theorem RgN.nil (b : Option Nat) : RgN [] [] b := fun i h => by simp at h
theorem RgN.none (ls : List Ln) (vs : List Value) : RgN ls vs none := fun _ _ _ _ _ h => by cases h
theorem SpAt.lt' {w : World} {v : Value} {l : List Span} (h : SpAt w v l) (hl : 0 < l.length) {g : Nat} (hg : v.ownBlock = some g) : g < w.heap.size := by
 obtain ⟨g', cap, e, hlt, _⟩ := h.cells 0 hl
 rw [e] at hg
 simp [Value.ownBlock] at hg
 omega
theorem RgN.new {W : World} {ls : List Ln} {vs : List Value} (h : RgsAt W ls vs) {b : Nat} (hb : W.heap.size <= b) : RgN ls vs (some b) := fun i hi hl g hg e => by
 have := (h.2 i hi).1.lt' hl hg
 cases e
 omega
theorem RgN.snoc {ls : List Ln} {vs : List Value} {b : Option Nat} (h : RgN ls vs b) (hv : vs.length = ls.length) {x : Ln} {v : Value} (hx : 0 < x.rng.length -> ∀ g, v.ownBlock = some g -> some g ≠ b) : RgN (ls ++ [x]) (vs ++ [v]) b := by
 intro i hi
 by_cases hl : i < ls.length
 ·have e1 : (ls ++ [x]).getD i default = ls.getD i default := by simp [List.getD_eq_getElem?_getD, List.getElem?_append_left hl]
  have e2 : (vs ++ [v]).getD i undef = vs.getD i undef := by simp [List.getD_eq_getElem?_getD, List.getElem?_append_left (show i < vs.length by rw [hv]; exact hl)]
  rw [e1, e2]; exact h i hl
 ·obtain rfl : i = ls.length := by simp at hi; omega
  have e1 : (ls ++ [x]).getD ls.length default = x := by simp [List.getD_eq_getElem?_getD]
  have e2 : (vs ++ [v]).getD ls.length undef = v := by simp [List.getD_eq_getElem?_getD, <- hv]
  rw [e1, e2]; exact hx
theorem SpAt.grown {W W' : World} {v : Value} {l : List Span} {row : Option Nat} (h : SpAt W v l) (hg : W.grownBy W' row) (hn : 0 < l.length -> ∀ g, v.ownBlock = some g -> some g ≠ row) : SpAt W' v l :=
 ⟨h.form, fun i hi => by
  obtain ⟨g, cap, e, hlt, c0, c1⟩ := h.cells i hi
  have hne := hn (by omega) g (by rw [e]; rfl)
  exact ⟨g, cap, e, Nat.lt_of_lt_of_le hlt hg.size, (grown_cell hg hlt hne).trans c0, (grown_cell hg hlt hne).trans c1⟩⟩
theorem RgsAt.grown {W W' : World} {ls : List Ln} {vs : List Value} {row : Option Nat} (h : RgsAt W ls vs) (hg : W.grownBy W' row) (hn : RgN ls vs row) : RgsAt W' ls vs := ⟨h.1, fun i hi => ⟨(h.2 i hi).1.grown hg (hn i hi), (h.2 i hi).2⟩⟩
theorem SpAt.one' {W : World} {b : Nat} {v x : Value} {l : List Span} {i : Nat} (h : SpAt W v l) (hn : 0 < l.length -> ∀ g, v.ownBlock = some g -> some g ≠ some b) : SpAt (W.setCell ⟨b, i, none⟩ x) v l :=
 ⟨h.form, fun j hj => by
  obtain ⟨g, cap, e, hg, c0, c1⟩ := h.cells j hj
  have hne : g ≠ b := fun e' => hn (by omega) g (by rw [e]; rfl) (by rw [e'])
  exact ⟨g, cap, e, by simp [World.setCell]; exact hg, (cell_set_other hne).trans c0, (cell_set_other hne).trans c1⟩⟩
theorem RgsAt.set {W : World} {ls : List Ln} {vs : List Value} {b i : Nat} {x : Value} (h : RgsAt W ls vs) (hn : RgN ls vs (some b)) : RgsAt (W.setCell ⟨b, i, none⟩ x) ls vs := ⟨h.1, fun j hj => ⟨(h.2 j hj).1.one' (hn j hj), (h.2 j hj).2⟩⟩
theorem RgsAt.keptO {W W' : World} {ls : List Ln} {vs : List Value} {row : Option Nat} (h : RgsAt W ls vs) (hg : W.grownBy W' row) (hr : ∀ r, row = some r -> ∃ o : Obj, W.heap[r]? = some o /\ o.isCells = false) : RgsAt W' ls vs := ⟨h.1, fun i hi => ⟨spAt_kept (h.2 i hi).1 hg hr, (h.2 i hi).2⟩⟩
theorem row_keptO {W W' : World} {B t k n : Nat} {v : Value} {cs : List Value} {row : Option Nat} (h : W.ownsRow B t k v n cs) (hg : W.grownBy W' row) (hr : ∀ r, row = some r -> ∃ o : Obj, W.heap[r]? = some o /\ o.isCells = false) : W'.ownsRow B t k v n cs := by
 obtain ⟨h1, h2⟩ := h
 refine ⟨h1, ?_⟩
 rcases h2 with h2 | ⟨g, cap, cur, rfl, hB, hh, r⟩
 ·exact Or.inl h2
 ·refine Or.inr ⟨g, cap, cur, rfl, hB, (hg.block g (Array.getElem?_eq_some_iff.1 hh).1 (fun e => ?_)).trans hh, r⟩
  obtain ⟨o, ho, hc⟩ := hr g e.symm
  rw [hh] at ho
  cases ho; cases hc
theorem row_grown' {W W' : World} {B t k n : Nat} {v : Value} {cs : List Value} {row : Option Nat} (h : W.ownsRow B t k v n cs) (hg : W.grownBy W' row) (hne : v.ownBlock = none \/ v.ownBlock ≠ row) : W'.ownsRow B t k v n cs := by
 obtain ⟨h1, h2⟩ := h
 refine ⟨h1, ?_⟩
 rcases h2 with h2 | ⟨g, cap, cur, rfl, hB, hh, r⟩
 ·exact Or.inl h2
 ·refine Or.inr ⟨g, cap, cur, rfl, hB, (hg.block g (Array.getElem?_eq_some_iff.1 hh).1 (fun e => ?_)).trans hh, r⟩
  rcases hne with h | h
  ·simp [Value.ownBlock] at h
  ·exact h e
theorem row_setLow {W : World} {B t k n b i : Nat} {v x : Value} {cs : List Value} (h : W.ownsRow B t k v n cs) (hb : b < B) : (W.setCell ⟨b, i, none⟩ x).ownsRow B t k v n cs := by
 refine ⟨h.1, ?_⟩
 rcases h.2 with h1 | ⟨g, cap, cur, h1, h2, h3, h4⟩
 ·exact .inl h1
 ·exact .inr ⟨g, cap, cur, h1, h2, (Below.heap_setCell _ _ _ g (by show g ≠ b; omega)).trans h3, h4⟩
theorem cell_seven_new (w : World) (A B C D E F G : Value) (t : TypeId) : ∀ (j : Nat) (u : Value), [A, B, C, D, E, F, G][j]? = some u -> (w.alloc (.cells #[A, B, C, D, E, F, G] t)).cell? (Addr.add ⟨w.heap.size, 0, none⟩ j) = some u := by
 intro j u h
 match j, h with
 | 0, h => simp at h; subst h; simp [Addr.add]
 | 1, h => simp at h; subst h; simp [Addr.add]
 | 2, h => simp at h; subst h; simp [Addr.add]
 | 3, h => simp at h; subst h; simp [Addr.add]
 | 4, h => simp at h; subst h; simp [Addr.add]
 | 5, h => simp at h; subst h; simp [Addr.add]
 | 6, h => simp at h; subst h; simp [Addr.add]
 | j + 7, h => simp at h
structure PS (w W : World) (lv sv : Value) (ls : List Ln) (vs : List Value) (ss : List Nat) : Prop where
 r0 : Blk W w.heap.size 59 #[.pointer none]
 r1 : Blk W (w.heap.size + 1) 33 #[.nilIface]
 r2 : Blk W (w.heap.size + 1 + 1) 54 #[lv]
 r3 : Blk W (w.heap.size + 1 + 1 + 1) 22 #[sv]
 lrow : W.ownsRow (w.heap.size + 1 + 1 + 1 + 1 + 1) 76 7 lv ls.length (lnCells ls vs)
 srow : W.ownsRow (w.heap.size + 1 + 1 + 1 + 1 + 1) 3 1 sv ss.length (icells (ss.map fun (k : Nat) => (k : Int)))
 rg : RgsAt W ls vs
 nl : RgN ls vs lv.ownBlock
 ns : RgN ls vs sv.ownBlock
 lo : ∀ k, k < w.heap.size + 1 + 1 + 1 + 1 + 1 -> RgN ls vs (some k)
 B : Below w.heap.size w W
 sz : w.heap.size + 1 + 1 + 1 + 1 + 1 <= W.heap.size
theorem PS.step {w W W' : World} {lv sv : Value} {ls : List Ln} {vs : List Value} {ss : List Nat} (h : PS w W lv sv ls vs ss) (hb : Below W.heap.size W W') : PS w W' lv sv ls vs ss :=
 ⟨h.r0.below hb h.r0.lt, h.r1.below hb h.r1.lt, h.r2.below hb h.r2.lt, h.r3.below hb h.r3.lt, row_new' h.lrow hb, row_new' h.srow hb, h.rg.below hb (Nat.le_refl _), h.nl, h.ns, h.lo, h.B.trans (hb.mono h.B.size), Nat.le_trans h.sz hb.size⟩
theorem PS.own {w : World} (B : Nat) (hB : w.heap.size <= B) (Φ : List Pc -> List Ln -> List Nat -> Prop) : OwnFrom B (fun (pre : List Pc) W => ∃ lv sv ls vs ss, Φ pre ls ss /\ PS w W lv sv ls vs ss) := by
 intro pre W W' row ⟨lv, sv, ls, vs, ss, hΦ, h⟩ hg hr
 have hr' : ∀ r, row = some r -> ∃ o : Obj, W.heap[r]? = some o /\ o.isCells = false := fun r e => (hr r e).2
 exact ⟨lv, sv, ls, vs, ss, hΦ, ⟨blk_kept h.r0 hg hr', blk_kept h.r1 hg hr', blk_kept h.r2 hg hr', blk_kept h.r3 hg hr', row_keptO h.lrow hg hr', row_keptO h.srow hg hr', h.rg.keptO hg hr', h.nl, h.ns, h.lo, ownFrom_below (β := Unit) (Nat.le_refl _) hB () W W' row h.B hg hr, Nat.le_trans h.sz hg.size⟩⟩
theorem PS.appL {w W w' : World} {lv lv' sv v : Value} {ls : List Ln} {vs : List Value} {ss : List Nat} {x : Ln} (h : PS w W lv sv ls vs ss) (hv : SpAt W v x.rng) (hrg : Rg x.rng) (hn : 0 < x.rng.length -> ∀ g, v.ownBlock = some g -> w.heap.size + 1 + 1 + 1 + 1 + 1 <= g /\ some g ≠ lv.ownBlock /\ some g ≠ sv.ownBlock)
  (hown : w'.ownsRow (w.heap.size + 1 + 1 + 1 + 1 + 1) 76 7 lv' (ls.length + 1) (lnCells ls vs ++ encLn x v)) (hg : W.grownBy w' lv.ownBlock) (hloc : lv'.ownBlock = lv.ownBlock \/ lv'.ownBlock = some W.heap.size) :
  PS w (w'.setCell ⟨w.heap.size + 1 + 1, 0, none⟩ lv') lv' sv (ls ++ [x]) (vs ++ [v]) ss /\ Blk w' (w.heap.size + 1 + 1) 54 #[lv] /\ Blk (w'.setCell ⟨w.heap.size + 1 + 1, 0, none⟩ lv') (w.heap.size + 1 + 1 + 1) 22 #[sv] := by
 have hne : ∀ b, b < w.heap.size + 1 + 1 + 1 + 1 + 1 -> some b ≠ lv.ownBlock := fun b hb e => by have := (h.lrow.lt b e.symm).1; omega
 have q0 := h.r0.kept hg (hne _ (by omega))
 have q1 := h.r1.kept hg (hne _ (by omega))
 have q2 := h.r2.kept hg (hne _ (by omega))
 have q3 := h.r3.kept hg (hne _ (by omega))
 have hx : 0 < x.rng.length -> ∀ g, v.ownBlock = some g -> some g ≠ lv.ownBlock := fun h1 g h2 => (hn h1 g h2).2.1
 have rg1 : RgsAt w' (ls ++ [x]) (vs ++ [v]) := (h.rg.grown hg h.nl).snoc (hv.grown hg hx) hrg
 have lo1 : ∀ k, k < w.heap.size + 1 + 1 + 1 + 1 + 1 -> RgN (ls ++ [x]) (vs ++ [v]) (some k) := fun k hk => (h.lo k hk).snoc h.rg.1 (fun h1 g h2 e => by have := (hn h1 g h2).1; cases e; omega)
 have srow1 := row_grown' h.srow hg (ownBlocks_ne h.srow h.lrow (by decide))
 have hB : Below w.heap.size w w' := h.B.grown hg h.B.size (fun k hk => by have := (h.lrow.lt k hk).1; omega)
 refine ⟨⟨q0.other (by omega), q1.other (by omega), q2.set (i := 0), q3.other (by omega), ?_, row_setLow srow1 (by omega), rg1.set (lo1 _ (by omega)), ?_, h.ns.snoc h.rg.1 (fun h1 g h2 => (hn h1 g h2).2.2), lo1, hB.setCell (p := ⟨w.heap.size + 1 + 1, 0, none⟩) (by show w.heap.size <= w.heap.size + 1 + 1; omega) _, by simp [World.setCell]; exact Nat.le_trans h.sz hg.size⟩, q2, q3.other (by omega)⟩
 ·rw [lnCells_snoc _ _ _ _ h.rg.1, List.length_append]
  exact row_setLow hown (by omega)
 ·rcases hloc with e | e
  ·rw [e]; exact h.nl.snoc h.rg.1 hx
  ·rw [e]
   refine (RgN.new h.rg (Nat.le_refl _)).snoc h.rg.1 (fun h1 g h2 e2 => ?_)
   have := hv.lt' h1 h2
   cases e2
   omega
theorem PS.appS {w W w' : World} {lv sv sv' : Value} {ls : List Ln} {vs : List Value} {ss : List Nat} {k : Nat} (h : PS w W lv sv ls vs ss)
  (hown : w'.ownsRow (w.heap.size + 1 + 1 + 1 + 1 + 1) 3 1 sv' (ss.length + 1) (icells (ss.map fun (k : Nat) => (k : Int)) ++ [.int .i64 (k : Int)])) (hg : W.grownBy w' sv.ownBlock) (hloc : sv'.ownBlock = sv.ownBlock \/ sv'.ownBlock = some W.heap.size) :
  PS w (w'.setCell ⟨w.heap.size + 1 + 1 + 1, 0, none⟩ sv') lv sv' ls vs (ss ++ [k]) /\ Blk w' (w.heap.size + 1 + 1 + 1) 22 #[sv] := by
 have hne : ∀ b, b < w.heap.size + 1 + 1 + 1 + 1 + 1 -> some b ≠ sv.ownBlock := fun b hb e => by have := (h.srow.lt b e.symm).1; omega
 have q0 := h.r0.kept hg (hne _ (by omega))
 have q1 := h.r1.kept hg (hne _ (by omega))
 have q2 := h.r2.kept hg (hne _ (by omega))
 have q3 := h.r3.kept hg (hne _ (by omega))
 have rg1 : RgsAt w' ls vs := h.rg.grown hg h.ns
 have lrow1 := row_grown' h.lrow hg (ownBlocks_ne h.lrow h.srow (by decide))
 have hB : Below w.heap.size w w' := h.B.grown hg h.B.size (fun k hk => by have := (h.srow.lt k hk).1; omega)
 refine ⟨⟨q0.other (by omega), q1.other (by omega), q2.other (by omega), q3.set (i := 0), row_setLow lrow1 (by omega), ?_, rg1.set (h.lo _ (by omega)), h.nl, ?_, h.lo, hB.setCell (p := ⟨w.heap.size + 1 + 1 + 1, 0, none⟩) (by show w.heap.size <= w.heap.size + 1 + 1 + 1; omega) _, by simp [World.setCell]; exact Nat.le_trans h.sz hg.size⟩, q3⟩
 ·rw [List.map_append, List.length_append]
  have e : icells (List.map (fun (k : Nat) => (k : Int)) ss ++ List.map (fun (k : Nat) => (k : Int)) [k]) = icells (ss.map fun (k : Nat) => (k : Int)) ++ [.int .i64 (k : Int)] := by rw [List.map_cons, List.map_nil, icells_snoc]
  rw [e]
  exact row_setLow hown (by omega)
 ·rcases hloc with e | e
  ·rw [e]; exact h.ns
  ·rw [e]; exact RgN.new h.rg (Nat.le_refl _)
theorem row_cells {W : World} {B t k n : Nat} {v : Value} {cs : List Value} (h : W.ownsRow B t k v n cs) : ∀ (j : Nat) (o : Obj), v.ownBlock = some j -> W.heap[j]? = some o -> o.isCells = true := by
 intro j o hj ho
 rcases h.2 with ⟨rfl, _⟩ | ⟨g, cap, cur, rfl, _, hg, _⟩
 ·simp [Value.ownBlock] at hj
 ·simp only [Value.ownBlock, Option.some.injEq] at hj
  subst hj
  rw [hg] at ho
  cases ho
  rfl
theorem kp1_grown {bt : Nat} {W W1 W' : World} {B t k n : Nat} {v : Value} {cs : List Value} (hK : Kp1 bt W W1) (h : W1.ownsRow B t k v n cs) (hg : W1.grownBy W' v.ownBlock) (h1 : bt < B) (h2 : 4 < B) (h3 : bt < W1.heap.size) (h4 : 4 < W1.heap.size) : Kp1 bt W W' := by
 have hne : ∀ b, b < B -> some b ≠ v.ownBlock := fun b hb e => by have := (h.lt b e.symm).1; omega
 exact ⟨(grown_cell hg h3 (hne _ h1)).trans hK.1, (grown_cell hg h4 (hne _ h2)).trans hK.2⟩
theorem CatV.set {w : World} {b : Nat} {ls : List Ln} {vs : List Value} {its : List It} {B k i : Nat} {x : Value} (h : CatV w b ls vs its B) (hk : k < B) (hn : RgN ls vs (some k)) : CatV (w.setCell ⟨k, i, none⟩ x) b ls vs its B := by
 obtain ⟨lv, iv, bm, h1, h2, h3, h4, h5, h6, h7, h8, h9⟩ := h
 exact ⟨lv, iv, bm, h1.other (by omega), h2.set hn, h3.set (fun g hg => by have := h8 g hg; omega), RowAt.set h4 (fun g hg => by have := h9 g hg; omega), h5.block (Below.heap_setCell _ _ _ _ (by show bm ≠ k; omega)), h6, h7, h8, h9⟩
theorem CatV.putD {w : World} {b D : Nat} {ls : List Ln} {vs : List Value} {its : List It} {B : Nat} {o' : Obj} (h : CatV w b ls vs its B) (hK : ∃ o, w.heap[D]? = some o /\ o.isCells = false /\ ∀ es c, o ≠ .map es c) : CatV (w.putObj D o') b ls vs its B := by
 obtain ⟨lv, iv, bm, h1, h2, h3, h4, h5, h6, h7, h8, h9⟩ := h
 obtain ⟨o, ho, hc, hm⟩ := hK
 have hbD : b ≠ D := by
  rintro rfl
  rw [show w.heap[b]? = _ from h1] at ho
  cases ho; cases hc
 have hmD : bm ≠ D := by
  rintro rfl
  obtain ⟨E, n, ⟨es, clock, h10, _⟩, _⟩ := h5
  rw [h10] at ho
  cases ho
  exact hm _ _ rfl
 refine ⟨lv, iv, bm, h1.put hbD, h2.keptO (grownBy_putObj' _ D o') (fun r e => by cases e; exact ⟨_, ho, hc⟩), h3.put ho hc (fun h => ?_), RowAt.put h4 ho hc (fun h => ?_), h5.block (World.putObj_heap_other hmD), h6, h7, h8, h9⟩
 ·rw [lnCells_length _ _ h2.1] at h; omega
 ·rw [itCells_length] at h; omega
end Go.Proofs.YtmhophccdfmngaaGreatDoor
namespace Go.Proofs.YtmhophccdfmngaaGreatDoor
open Go.RowKit Go.Deep Go.Shelf Sv
theorem infoRLn : (Tryz.prog.info? 79).map (fun i => (i.zero, i.size, i.bytes)) = some (some (.agg #[.int .i64 0, .string ⟨#[]⟩, .int .i64 0, .int .i64 0, .int .i64 0, .string ⟨#[]⟩, .slice none 0 0]), 7, 88) := by kernel_rfl
theorem tp_len (l : List Span) : (tp l).length = 2 * l.length := by
 induction l with
 | nil => rfl
 | cons s r ih => simp only [tp, List.length_cons, ih]; omega
def RgsR (W : World) (ls : List Ln) (vs : List Value) : Prop := vs.length = ls.length /\ ∀ i, i < ls.length -> NsAt W (vs.getD i undef) (tp (ls.getD i default).rng) /\ Rg (ls.getD i default).rng
theorem RgsR.below {B : Nat} {w w' : World} {l : List Ln} {vs : List Value} (h : RgsR w l vs) (hb : Below B w w') (hB : w.heap.size <= B) : RgsR w' l vs := ⟨h.1, fun i hi => ⟨(h.2 i hi).1.below hb hB, (h.2 i hi).2⟩⟩
theorem rgsR_nil (w : World) : RgsR w [] [] := ⟨rfl, fun i h => by simp at h⟩
theorem NsAt.lt' {w : World} {v : Value} {l : List Span} (h : NsAt w v (tp l)) (hl : 0 < l.length) {g : Nat} (hg : v.ownBlock = some g) : g < w.heap.size := by
 obtain ⟨g', cap, e, hlt, _⟩ := h.cells 0 (by rw [tp_len]; omega)
 rw [e] at hg
 simp [Value.ownBlock] at hg
 omega
theorem RgN.newR {W : World} {ls : List Ln} {vs : List Value} (h : RgsR W ls vs) {b : Nat} (hb : W.heap.size <= b) : RgN ls vs (some b) := fun i hi hl g hg e => by
 have := (h.2 i hi).1.lt' hl hg
 cases e
 omega
theorem NsAt.grown {W W' : World} {v : Value} {l : List Span} {row : Option Nat} (h : NsAt W v (tp l)) (hg : W.grownBy W' row) (hn : 0 < l.length -> ∀ g, v.ownBlock = some g -> some g ≠ row) : NsAt W' v (tp l) :=
 ⟨h.form, fun i hi => by
  obtain ⟨g, cap, e, hlt, c0⟩ := h.cells i hi
  have hne := hn (by rw [tp_len] at hi; omega) g (by rw [e]; rfl)
  exact ⟨g, cap, e, Nat.lt_of_lt_of_le hlt hg.size, (grown_cell hg hlt hne).trans c0⟩⟩
theorem RgsR.grown {W W' : World} {ls : List Ln} {vs : List Value} {row : Option Nat} (h : RgsR W ls vs) (hg : W.grownBy W' row) (hn : RgN ls vs row) : RgsR W' ls vs := ⟨h.1, fun i hi => ⟨(h.2 i hi).1.grown hg (hn i hi), (h.2 i hi).2⟩⟩
theorem RgsR.snoc {w : World} {l : List Ln} {vs : List Value} (h : RgsR w l vs) {x : Ln} {v : Value} (hv : NsAt w v (tp x.rng)) (hr : Rg x.rng) : RgsR w (l ++ [x]) (vs ++ [v]) := by
 refine ⟨by simp [h.1], fun i hi => ?_⟩
 by_cases hl : i < l.length
 ·have e1 : (l ++ [x]).getD i default = l.getD i default := by simp [List.getD_eq_getElem?_getD, List.getElem?_append_left hl]
  have e2 : (vs ++ [v]).getD i undef = vs.getD i undef := by simp [List.getD_eq_getElem?_getD, List.getElem?_append_left (show i < vs.length by rw [h.1]; exact hl)]
  rw [e1, e2]; exact h.2 i hl
 ·obtain rfl : i = l.length := by simp at hi; omega
  have e1 : (l ++ [x]).getD l.length default = x := by simp [List.getD_eq_getElem?_getD]
  have e2 : (vs ++ [v]).getD l.length undef = v := by simp [List.getD_eq_getElem?_getD, <- h.1]
  rw [e1, e2]; exact ⟨hv, hr⟩
structure RPS (W0 W : World) (lv sv : Value) (ls : List Ln) (vs : List Value) (ss : List Nat) : Prop where
 lrow : W.ownsRow W0.heap.size 79 7 lv ls.length (lnCells ls vs)
 srow : W.ownsRow W0.heap.size 3 1 sv ss.length (icells (ss.map fun (k : Nat) => (k : Int)))
 rg : RgsR W ls vs
 nl : RgN ls vs lv.ownBlock
 ns : RgN ls vs sv.ownBlock
 lo : ∀ k, k < W0.heap.size -> RgN ls vs (some k)
 B : Below W0.heap.size W0 W
theorem RPS.start (W0 : World) : RPS W0 W0 (.slice none 0 0) (.slice none 0 0) [] [] [] := ⟨World.ownsRow_nil _ _ _ _, World.ownsRow_nil _ _ _ _, rgsR_nil _, RgN.nil _, RgN.nil _, fun _ _ => RgN.nil _, Below.refl _ _⟩
theorem RPS.step {W0 W W' : World} {lv sv : Value} {ls : List Ln} {vs : List Value} {ss : List Nat} (h : RPS W0 W lv sv ls vs ss) (hb : Below W.heap.size W W') : RPS W0 W' lv sv ls vs ss :=
 ⟨row_new' h.lrow hb, row_new' h.srow hb, h.rg.below hb (Nat.le_refl _), h.nl, h.ns, h.lo, h.B.trans (hb.mono h.B.size)⟩
theorem RPS.appL {W0 W w' : World} {lv lv' sv v : Value} {ls : List Ln} {vs : List Value} {ss : List Nat} {x : Ln} (h : RPS W0 W lv sv ls vs ss) (hv : NsAt W v (tp x.rng)) (hrg : Rg x.rng) (hn : 0 < x.rng.length -> ∀ g, v.ownBlock = some g -> W0.heap.size <= g /\ some g ≠ lv.ownBlock /\ some g ≠ sv.ownBlock)
  (hown : w'.ownsRow W0.heap.size 79 7 lv' (ls.length + 1) (lnCells ls vs ++ encLn x v)) (hg : W.grownBy w' lv.ownBlock) (hloc : lv'.ownBlock = lv.ownBlock \/ lv'.ownBlock = some W.heap.size) : RPS W0 w' lv' sv (ls ++ [x]) (vs ++ [v]) ss := by
 have hx : 0 < x.rng.length -> ∀ g, v.ownBlock = some g -> some g ≠ lv.ownBlock := fun h1 g h2 => (hn h1 g h2).2.1
 have rg1 : RgsR w' (ls ++ [x]) (vs ++ [v]) := (h.rg.grown hg h.nl).snoc (hv.grown hg hx) hrg
 refine ⟨?_, row_grown' h.srow hg (ownBlocks_ne h.srow h.lrow (by decide)), rg1, ?_, h.ns.snoc h.rg.1 (fun h1 g h2 => (hn h1 g h2).2.2), fun k hk => (h.lo k hk).snoc h.rg.1 (fun h1 g h2 e => by have := (hn h1 g h2).1; cases e; omega), h.B.grown hg h.B.size (fun k hk => (h.lrow.lt k hk).1)⟩
 ·rw [lnCells_snoc _ _ _ _ h.rg.1, List.length_append]
  exact hown
 ·rcases hloc with e | e
  ·rw [e]; exact h.nl.snoc h.rg.1 hx
  ·rw [e]
   refine (RgN.newR h.rg (Nat.le_refl _)).snoc h.rg.1 (fun h1 g h2 e2 => ?_)
   have := hv.lt' h1 h2
   cases e2
   omega
theorem RPS.appS {W0 W w' : World} {lv sv sv' : Value} {ls : List Ln} {vs : List Value} {ss : List Nat} {k : Nat} (h : RPS W0 W lv sv ls vs ss)
  (hown : w'.ownsRow W0.heap.size 3 1 sv' (ss.length + 1) (icells (ss.map fun (k : Nat) => (k : Int)) ++ [.int .i64 (k : Int)])) (hg : W.grownBy w' sv.ownBlock) (hloc : sv'.ownBlock = sv.ownBlock \/ sv'.ownBlock = some W.heap.size) : RPS W0 w' lv sv' ls vs (ss ++ [k]) := by
 refine ⟨row_grown' h.lrow hg (ownBlocks_ne h.lrow h.srow (by decide)), ?_, h.rg.grown hg h.ns, h.nl, ?_, h.lo, h.B.grown hg h.B.size (fun k hk => (h.srow.lt k hk).1)⟩
 ·rw [List.map_append, List.length_append]
  have e : icells (List.map (fun (k : Nat) => (k : Int)) ss ++ List.map (fun (k : Nat) => (k : Int)) [k]) = icells (ss.map fun (k : Nat) => (k : Int)) ++ [.int .i64 (k : Int)] := by rw [List.map_cons, List.map_nil, icells_snoc]
  rw [e]
  exact hown
 ·rcases hloc with e | e
  ·rw [e]; exact h.ns
  ·rw [e]; exact RgN.newR h.rg (Nat.le_refl _)
theorem NsAt.one' {W : World} {b : Nat} {v x : Value} {l : List Span} {i : Nat} (h : NsAt W v (tp l)) (hn : 0 < l.length -> ∀ g, v.ownBlock = some g -> some g ≠ some b) : NsAt (W.setCell ⟨b, i, none⟩ x) v (tp l) :=
 ⟨h.form, fun j hj => by
  obtain ⟨g, cap, e, hg, c0⟩ := h.cells j hj
  have hne : g ≠ b := fun e' => hn (by rw [tp_len] at hj; omega) g (by rw [e]; rfl) (by rw [e'])
  exact ⟨g, cap, e, by simp [World.setCell]; exact hg, (cell_set_other hne).trans c0⟩⟩
theorem RPS.rlsSet {W0 W : World} {lv sv x y : Value} {ls : List Ln} {vs : List Value} {ss : List Nat} {b i j : Nat} (h : RPS W0 W lv sv ls vs ss) (hb : b < W0.heap.size) : RLs ((W.setCell ⟨b, i, none⟩ x).setCell ⟨b, j, none⟩ y) lv ls :=
 ⟨vs, ⟨h.rg.1, fun k hk => ⟨((h.rg.2 k hk).1.one' (h.lo b hb k hk)).one' (h.lo b hb k hk), (h.rg.2 k hk).2⟩⟩, rowAt_own (row_setLow (row_setLow h.lrow hb) hb)⟩
theorem RPS.rls {W0 W : World} {lv sv : Value} {ls : List Ln} {vs : List Value} {ss : List Nat} (h : RPS W0 W lv sv ls vs ss) : RLs W lv ls := ⟨vs, h.rg, rowAt_own h.lrow⟩
theorem filter_take {L : List (Nat × ByteArray)} {k : Nat} (hk : k < L.length) : (L.take (k + 1)).filter (fun x => decide (x.2.size ≠ 0)) = (L.take k).filter (fun x => decide (x.2.size ≠ 0)) ++ (if (px L k).2.size = 0 then [] else [px L k]) := by
 rw [List.take_succ_eq_append_getElem hk, List.filter_append, px_at L k hk]
 congr 1
 rw [List.filter_cons, List.filter_nil]
 by_cases h : (L[k]).2.size = 0
 ·rw [if_neg (by simp [h]), if_pos h]
 ·rw [if_pos (decide_eq_true h), if_neg h]
theorem pl_take {L : List (Nat × ByteArray)} {k : Nat} (hk : k < L.length) {acc : List (Nat × Ln)} (h : plF ((L.take k).filter (fun x => decide (x.2.size ≠ 0))) [] = .ok acc) :
  plF ((L.take (k + 1)).filter (fun x => decide (x.2.size ≠ 0))) [] = if (px L k).2.size = 0 then .ok acc else match lineF (px L k).2 with
   | .error e => .error (e.1, (px L k).1)
   | .ok l => .ok (acc ++ [((px L k).1, l)]) := by
 rw [filter_take hk, plF_app, h]
 simp only
 by_cases h0 : (px L k).2.size = 0
 ·rw [if_pos h0, if_pos h0]; rfl
 ·rw [if_neg h0, if_neg h0, plF]
  cases lineF (px L k).2 with
  | error e => rfl
  | ok l => rfl
theorem pl_err {L : List (Nat × ByteArray)} {k : Nat} {e : Int × Nat} (h : plF ((L.take k).filter (fun x => decide (x.2.size ≠ 0))) [] = .error e) : plF (L.filter (fun x => decide (x.2.size ≠ 0))) [] = .error e := by
 conv => lhs; rw [<- List.take_append_drop k L, List.filter_append, plF_app, h]
end Go.Proofs.YtmhophccdfmngaaGreatDoor
namespace Go.Proofs.YtmhophccdfmngaaGreatDoor
open Go.RowKit Go.Shelf Sv
theorem tailF_err {k : Nat} {nm : ByteArray} {ns : List Nat} {ot rest : ByteArray} {q : Int} {o : Option Nat} (h : tailF k nm ns ot rest = .error (q, o)) : q ≠ 0 := by
 unfold tailF at h
 split at h
 ·rename_i e hx; cases h; exact rngF_err hx
 ·cases h
theorem lineF_err {s : ByteArray} {q : Int} {o : Option Nat} (h : lineF s = .error (q, o)) : q ≠ 0 := by
 unfold lineF at h
 split at h
 ·cases h; decide
 ·split at h
  ·exact tailF_err h
  ·split at h
   ·rename_i hx; cases h; exact versF_err hx
   ·split at h
    ·split at h
     ·cases h
     ·cases h; decide
    ·exact tailF_err h
end Go.Proofs.YtmhophccdfmngaaGreatDoor
