/- listed: its walk. -/
import Derived.Test.YtcjjekhecjmaeaaGreatDoorImPost
import Derived.Test.YtcjjekhecjmaeaaGreatDoorBdDone
import Derived.Test.YtcjjekhecjmaeaaGreatDoorArMake
namespace Go.Proofs.YtcjjekhecjmaeaaGreatDoor
open Go.RowKit Go.Maps
def numL (D : List Int) : List (Int × Int) := (0, 0) :: (1, 1) :: D.mapIdx (fun i h => (h, 2 + (i : Int)))
theorem numL_snoc (D : List Int) (h : Int) : numL (D ++ [h]) = numL D ++ [(h, 2 + (D.length : Int))] := by
 unfold numL; rw [List.mapIdx_concat]; rfl
theorem numL_len (D : List Int) : (numL D).length = D.length + 2 := by unfold numL; simp
theorem numL_keys (D : List Int) (a : Int) : a ∈ (numL D).map Prod.fst ↔ InD D a := by
 unfold numL InD
 have e : ((D.mapIdx (fun i h => (h, 2 + (i : Int)))).map Prod.fst) = D := by
  apply List.ext_getElem
  ·simp
  ·intro i h1 h2; simp
 rw [List.map_cons, List.map_cons, e, List.mem_cons, List.mem_cons]
theorem numL_mem {D : List Int} {h : Int} (hi : InD D h) : (h, numD D h) ∈ numL D := by
 unfold numL numD
 by_cases e : h = 0 \/ h = 1
 ·rw [if_pos e]
  rcases e with rfl | rfl <;> simp
 ·rw [if_neg e]
  have hm : h ∈ D := by
   rcases hi with e1 | e1 | e1
   ·exact absurd (.inl e1) e
   ·exact absurd (.inr e1) e
   ·exact e1
  have hlt := List.idxOf_lt_length_of_mem hm
  refine List.mem_cons_of_mem _ (List.mem_cons_of_mem _ (List.mem_mapIdx.2 ⟨D.idxOf h, hlt, ?_⟩))
  rw [List.getElem_idxOf hlt]
theorem numL_put {D : List Int} {h : Int} (hn : ¬ InD D h) : memoPut (numL D) h (2 + (D.length : Int)) = numL (D ++ [h]) := by
 unfold memoPut
 rw [if_neg (fun hm => hn ((numL_keys D h).1 hm)), numL_snoc]
def ent (ns : List Nd) (D : List Int) (h : Int) : List Value := [.int .i64 (nd ns (pl h)).v, .int .i64 (numD D (nd ns (pl h)).l), .int .i64 (numD D (nd ns (pl h)).h)]
def entL (ns : List Nd) (D : List Int) : List Value := D.flatMap (ent ns D)
theorem ent_app {ns : List Nd} {D E : List Int} {h : Int} (h1 : InD D (nd ns (pl h)).l) (h2 : InD D (nd ns (pl h)).h) : ent ns (D ++ E) h = ent ns D h := by
 unfold ent; rw [numD_app h1, numD_app h2]
theorem flat_same {α : Type} {f g : Int -> List α} : ∀ {l : List Int}, (∀ x ∈ l, f x = g x) -> l.flatMap f = l.flatMap g
 | [], _ => rfl
 | x :: l, h => by rw [List.flatMap_cons, List.flatMap_cons, h x (List.mem_cons_self ..), flat_same (fun y hy => h y (List.mem_cons_of_mem _ hy))]
theorem entL_snoc {ns : List Nd} {D : List Int} {h : Int} (hD : Listed ns D) (h1 : InD D (nd ns (pl h)).l) (h2 : InD D (nd ns (pl h)).h) : entL ns (D ++ [h]) = entL ns D ++ ent ns D h := by
 unfold entL
 rw [List.flatMap_append, flat_same (f := ent ns (D ++ [h])) (g := ent ns D) (fun x hx => ent_app (hD.kid x hx).1 (hD.kid x hx).2)]
 simp [ent_app h1 h2]
structure NumSt (B A : Nat) (w : World) (s b : Nat) (O : Nat -> Prop) (vars : Nat) (room : Int) (ns : List Nd) (nb sb fb ob bm : Nat) (D : List Int) (v : Value) : Prop where
 space : SpaceAt A w s b O vars room ns
 out : ∀ k, O k -> k < B
 sB : s < B
 hB : B <= w.heap.size
 cn : w.cell? ⟨nb, 0, none⟩ = some (.map (some bm))
 cs : w.cell? ⟨sb, 0, none⟩ = some (.pointer (some ⟨s, 0, none⟩))
 cf : w.cell? ⟨fb, 0, none⟩ = some (.func (.func 84) #[] #[.pointer (some ⟨nb, 0, none⟩), .pointer (some ⟨sb, 0, none⟩), .pointer (some ⟨fb, 0, none⟩), .pointer (some ⟨ob, 0, none⟩)])
 co : w.heap[ob]? = some (.cells #[v] 98)
 map : ∃ Dm, w.ownsMap Tryz.prog 3 (plainElem Tryz.prog 3) bm (numL D).length Dm /\ IRep Dm (numL D)
 row : w.ownsRow B 102 3 v D.length (entL ns D)
 lt : nb < w.heap.size /\ sb < w.heap.size /\ fb < w.heap.size /\ bm < w.heap.size
 ge : B <= nb /\ B <= sb /\ B <= fb /\ B <= ob /\ B <= bm
 ne : nb ≠ ob /\ sb ≠ ob /\ fb ≠ ob /\ bm ≠ ob /\ nb ≠ bm /\ sb ≠ bm /\ fb ≠ bm
 own : ∀ k, v.ownBlock = some k -> k ≠ nb /\ k ≠ sb /\ k ≠ fb /\ k ≠ ob /\ k ≠ bm
def Wr (ob bm : Nat) (v : Value) (k : Nat) : Prop := k = ob \/ k = bm \/ v.ownBlock = some k
structure Fr (ob bm : Nat) (v : Value) (w w' : World) (v' : Value) : Prop where
 kept : Kept (Wr ob bm v) w w'
 own : ∀ k, v'.ownBlock = some k -> v.ownBlock = some k \/ w.heap.size <= k
section
variable {B A : Nat} {w w' w'' : World} {s b : Nat} {O : Nat -> Prop} {vars : Nat} {room : Int} {ns : List Nd} {nb sb fb ob bm : Nat} {D D' : List Int} {v v' v'' : Value}
theorem Fr.refl : Fr ob bm v w w v := ⟨Kept.refl _ _, fun _ h => .inl h⟩
theorem Fr.trans (h : Fr ob bm v w w' v') (k : Fr ob bm v' w' w'' v'') : Fr ob bm v w w'' v'' :=
 ⟨h.kept.andThen k.kept (fun i hi hlt => by
  rcases hi with e | e | e
  ·exact .inl e
  ·exact .inr (.inl e)
  ·rcases h.own i e with e | e
   ·exact .inr (.inr e)
   ·omega), fun i hi => by
  rcases k.own i hi with e | e
  ·exact h.own i e
  ·exact .inr (Nat.le_trans h.kept.size e)⟩
theorem Fr.of_below (hb : Below w.heap.size w w') : Fr ob bm v w w' v := ⟨Kept.of_below hb _, fun _ h => .inl h⟩
theorem NumSt.olt (h : NumSt B A w s b O vars room ns nb sb fb ob bm D v) : ob < w.heap.size := (Array.getElem?_eq_some_iff.1 h.co).1
theorem NumSt.c0 (h : NumSt B A w s b O vars room ns nb sb fb ob bm D v) : w.cell? ⟨ob, 0, none⟩ = some v := by simp [World.cell?, h.co]
theorem row3_new {N n : Nat} {cs : List Value} {t : TypeId} (h : w.ownsRow N t 3 v n cs) (hb : Below w.heap.size w w') : w'.ownsRow N t 3 v n cs := by
 refine ⟨h.1, ?_⟩
 rcases h.2 with h1 | ⟨g, cap, cur, h1, h2, h3, h4⟩
 ·exact .inl h1
 ·exact .inr ⟨g, cap, cur, h1, h2, (hb.block g (h.lt g (by rw [h1]; rfl)).2).trans h3, h4⟩
theorem NumSt.new (h : NumSt B A w s b O vars room ns nb sb fb ob bm D v) (hb : Below w.heap.size w w') : NumSt B A w' s b O vars room ns nb sb fb ob bm D v := by
 obtain ⟨l1, l2, l3, l4⟩ := h.lt
 obtain ⟨Dm, m1, m2⟩ := h.map
 have hsz := hb.size
 exact ⟨h.space.new hb, h.out, h.sB, Nat.le_trans h.hB hsz, (hb.cell (p := ⟨nb, 0, none⟩) l1).trans h.cn, (hb.cell (p := ⟨sb, 0, none⟩) l2).trans h.cs, (hb.cell (p := ⟨fb, 0, none⟩) l3).trans h.cf, (hb.block ob h.olt).trans h.co,
  ⟨Dm, ownsMap_kept m1 (Kept.of_below hb (fun _ => False)) (fun h => h), m2⟩, row3_new h.row hb, ⟨by omega, by omega, by omega, by omega⟩, h.ge, h.ne, h.own⟩
theorem NumSt.kept {S : Nat -> Prop} (h : NumSt B A w s b O vars room ns nb sb fb ob bm D v) (hk : Kept S w w') (hS : ∀ k, S k -> B <= k /\ k ≠ nb /\ k ≠ sb /\ k ≠ fb /\ k ≠ ob /\ k ≠ bm /\ v.ownBlock ≠ some k) : NumSt B A w' s b O vars room ns nb sb fb ob bm D v := by
 obtain ⟨l1, l2, l3, l4⟩ := h.lt
 obtain ⟨Dm, m1, m2⟩ := h.map
 have hsz := hk.size
 refine ⟨h.space.kept hk (fun k ho hs => ?_) (fun hs => ?_), h.out, h.sB, Nat.le_trans h.hB hsz, (hk.cell (a := ⟨nb, 0, none⟩) l1 (fun hs => (hS _ hs).2.1 rfl)).trans h.cn, (hk.cell (a := ⟨sb, 0, none⟩) l2 (fun hs => (hS _ hs).2.2.1 rfl)).trans h.cs, (hk.cell (a := ⟨fb, 0, none⟩) l3 (fun hs => (hS _ hs).2.2.2.1 rfl)).trans h.cf, (hk.block ob h.olt (fun hs => (hS _ hs).2.2.2.2.1 rfl)).trans h.co,
  ⟨Dm, ownsMap_kept m1 hk (fun hs => (hS _ hs).2.2.2.2.2.1 rfl), m2⟩, ⟨h.row.1, ?_⟩, ⟨by omega, by omega, by omega, by omega⟩, h.ge, h.ne, h.own⟩
 ·have h1 := h.out k ho
  have h2 := (hS k hs).1
  omega
 ·have h1 := h.sB
  have h2 := (hS s hs).1
  omega
 ·rcases h.row.2 with h1 | ⟨g, cap, cur, h1, h2, h3, h4⟩
  ·exact .inl h1
  ·exact .inr ⟨g, cap, cur, h1, h2, (hk.block g (h.row.lt g (by rw [h1]; rfl)).2 (fun hs => (hS _ hs).2.2.2.2.2.2 (by rw [h1]; rfl))).trans h3, h4⟩
theorem NumSt.grow {w8 w9 w10 : World} {v8 : Value} {h : Int} (hS : NumSt B A w s b O vars room ns nb sb fb ob bm D v) (hk8 : Kept (fun k => v.ownBlock = some k) w w8) (hrow : w8.ownsRow B 102 3 v8 (D ++ [h]).length (entL ns (D ++ [h]))) (hloc : ∀ k, v8.ownBlock = some k -> v.ownBlock = some k \/ w.heap.size <= k)
  (h9 : w9 = w8.setCell ⟨ob, 0, none⟩ v8) (hk10 : Kept (fun k => k = bm) w9 w10) (hmap : ∃ Dm, w10.ownsMap Tryz.prog 3 (plainElem Tryz.prog 3) bm (numL (D ++ [h])).length Dm /\ IRep Dm (numL (D ++ [h]))) :
  NumSt B A w10 s b O vars room ns nb sb fb ob bm (D ++ [h]) v8 /\ Fr ob bm v w w10 v8 := by
 subst h9
 obtain ⟨l1, l2, l3, l4⟩ := hS.lt
 obtain ⟨g1, g2, g3, g4, g5⟩ := hS.ge
 obtain ⟨e1, e2, e3, e4, e5, e6, e7⟩ := hS.ne
 have hol := hS.olt
 have hown := fun k hk => hS.own k hk
 have ov : v.ownBlock ≠ some ob := fun e => (hown _ e).2.2.2.1 rfl
 have hk9 : Kept (fun k => k = ob) w8 (w8.setCell ⟨ob, 0, none⟩ v8) := Kept.setCell _ _ _ rfl
 have hK : Kept (Wr ob bm v) w w10 := ((hk8.mono (fun k e => .inr (.inr e))).trans (hk9.mono (fun k e => .inl e))).trans (hk10.mono (fun k e => .inr (.inl e)))
 have hsz := hK.size
 have hwr : ∀ k, Wr ob bm v k -> B <= k /\ k ≠ nb /\ k ≠ sb /\ k ≠ fb := fun k hk => by
  rcases hk with e | e | e
  ·subst e; exact ⟨g4, fun e => e1 e.symm, fun e => e2 e.symm, fun e => e3 e.symm⟩
  ·subst e; exact ⟨g5, fun e => e5 e.symm, fun e => e6 e.symm, fun e => e7 e.symm⟩
  ·have := hown k e
   exact ⟨(hS.row.lt k e).1, this.1, this.2.1, this.2.2.1⟩
 have b8 : w8.heap[ob]? = some (.cells #[v] 98) := (hk8.block ob hol ov).trans hS.co
 have b9 : (w8.setCell ⟨ob, 0, none⟩ v8).heap[ob]? = some (.cells #[v8] 98) := by
  obtain ⟨hlt, hk⟩ := Array.getElem?_eq_some_iff.1 b8
  show (w8.heap.modify ob _)[ob]? = _
  rw [Array.getElem?_eq_getElem (by rw [Array.size_modify]; exact hlt), Array.getElem_modify_self, hk]
  rfl
 have hv8 : ∀ k, v8.ownBlock = some k -> k ≠ nb /\ k ≠ sb /\ k ≠ fb /\ k ≠ ob /\ k ≠ bm := fun k hk => by
  rcases hloc k hk with e | e
  ·exact hown k e
  ·omega
 have o8 : ob < w8.heap.size := Nat.lt_of_lt_of_le hol hk8.size
 refine ⟨⟨hS.space.kept hK (fun k ho hs => ?_) (fun hs => ?_), hS.out, hS.sB, Nat.le_trans hS.hB hsz, (hK.cell (a := ⟨nb, 0, none⟩) l1 (fun hs => (hwr _ hs).2.1 rfl)).trans hS.cn, (hK.cell (a := ⟨sb, 0, none⟩) l2 (fun hs => (hwr _ hs).2.2.1 rfl)).trans hS.cs, (hK.cell (a := ⟨fb, 0, none⟩) l3 (fun hs => (hwr _ hs).2.2.2 rfl)).trans hS.cf,
  (hk10.block ob (Nat.lt_of_lt_of_le o8 hk9.size) (fun e => e4 e.symm)).trans b9, hmap, ⟨hrow.1, ?_⟩, ⟨by omega, by omega, by omega, by omega⟩, hS.ge, hS.ne, hv8⟩, ⟨hK, hloc⟩⟩
 ·have h1 := hS.out k ho
  have h2 := (hwr k hs).1
  omega
 ·have h1 := hS.sB
  have h2 := (hwr s hs).1
  omega
 ·rcases hrow.2 with h1 | ⟨g, cap, cur, h1, h2, h3, h4⟩
  ·exact .inl h1
  ·have hg := hrow.lt g (by rw [h1]; rfl)
   have hgv := hv8 g (by rw [h1]; rfl)
   exact .inr ⟨g, cap, cur, h1, h2, ((hk10.block g (Nat.lt_of_lt_of_le hg.2 hk9.size) hgv.2.2.2.2).trans (hk9.block g hg.2 hgv.2.2.2.1)).trans h3, h4⟩
end
end Go.Proofs.YtcjjekhecjmaeaaGreatDoor
