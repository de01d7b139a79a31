/- New, Vars, Free, At. -/
import Derived.Test.YtcjjekhecjmaeaaGreatDoorImLayP
import Derived.Test.YtcjjekhecjmaeaaGreatDoorProg
import Derived.Shelf.LaysM
import Derived.Shelf.LaysC
import Derived.Shelf.Strings.Split
import Derived.Lib.SplitLaws
import Derived.Test.YtcjjekhecjmaeaaGreatDoorArFree
import Derived.Lib.Strings
import Derived.Laws.Strings3
import Derived.Lib.IndexBytes
import Derived.Test.YtcjjekhecjmaeaaGreatDoorArTop
import Derived.PlainAid
import Derived.Lib.BufSteps
import Derived.Laws.IdiomStrings
import Derived.Test.YtcjjekhecjmaeaaGreatDoorBdDone
import Derived.Deep.AppendLies
import Derived.Test.YtcjjekhecjmaeaaGreatDoorBdWithout
import Derived.Test.YtcjjekhecjmaeaaGreatDoorBdTab
set_option maxHeartbeats 1000000
set_option maxRecDepth 100000
namespace Go.Proofs.YtcjjekhecjmaeaaGreatDoor
section
open Go.RowKit Num Go.Sort Go.PlainAid
abbrev headW : List UInt8 := [115, 112, 97, 99, 101, 32]
noncomputable def cutF (l : List UInt8) : Option (Nat × Nat × List (List UInt8)) :=
 if 1 <= l.length /\ l.drop (l.length - 1) = [10] then
  if ((splitL 10 (l.take (l.length - 1))).headD []).take 6 = headW then
   match threeF (((splitL 10 (l.take (l.length - 1))).headD []).drop 6) with
   | some (v, n, t) => if v <= 24 /\ (n : Int) = ((splitL 10 (l.take (l.length - 1))).length : Int) - 2 then some (v, t, ((splitL 10 (l.take (l.length - 1))).drop 1).dropLast) else none
   | none => none
  else none
 else none
end
section
open Go.RowKit Go.Shelf Go.Sort Go.PlainAid
def BytesAt (W : World) (v : Value) (l : List UInt8) : Prop := ∃ a c, v = .slice a l.length c /\ ∀ i (h : i < l.length), ∃ g, a = some ⟨g, 0, none⟩ /\ g < W.heap.size /\ W.cell? ⟨g, i, none⟩ = some (.int .u8 ((l[i]).toNat : Int))
theorem BytesAt.below {W W' : World} {v : Value} {l : List UInt8} (h : BytesAt W v l) (hb : Below W.heap.size W W') : BytesAt W' v l := by
 obtain ⟨a, c, e, h⟩ := h
 refine ⟨a, c, e, fun i hi => ?_⟩
 obtain ⟨g, h1, h2, h3⟩ := h i hi
 exact ⟨g, h1, Nat.lt_of_lt_of_le h2 hb.size, (hb.cell (p := ⟨g, i, none⟩) h2).trans h3⟩
theorem BytesAt.of_row {B : Nat} {W : World} {v : Value} {l : List UInt8} (h : W.ownsRow B 5 1 v l.length (Lib.byteCells l)) : BytesAt W v l := by
 obtain ⟨a, c, rfl, -⟩ := row1_form h
 refine ⟨a, c, rfl, fun i hi => ?_⟩
 rcases h.2 with ⟨h1, h2⟩ | ⟨g, cap, cur, h1, -⟩
 ·omega
 ·injection h1 with e1
  subst e1
  refine ⟨g, rfl, (h.lt g rfl).2, ?_⟩
  have := h.cellAt i (by omega)
  rw [this]
  simp [Lib.byteCells, hi]
end
section
open Go.RowKit Go.Shelf Go.Lib
def RowM (w : World) (B : Nat) (v : Value) (l : List UInt8) : Prop :=
 ∃ g cap cur fz, v = .slice (some ⟨g, 0, none⟩) l.length cap /\ B <= g /\ w.heap[g]? = some (.cells cur 5 fz) /\ (∀ j, l.length <= j -> j < cap -> ¬ (fz.1 <= j /\ j < fz.2)) /\ l.length <= cap /\ cap <= maxLen /\ cur.size = cap /\ cur.toList.take l.length = Lib.byteCells l
section
variable {w w' : World} {B : Nat} {v : Value} {l : List UInt8}
theorem RowM.own (h : RowM w B v l) : ∃ g, v.ownBlock = some g /\ B <= g /\ g < w.heap.size := by
 obtain ⟨g, cap, cur, fz, rfl, h1, h2, -⟩ := h
 exact ⟨g, rfl, h1, (Array.getElem?_eq_some_iff.1 h2).1⟩
theorem RowM.form (h : RowM w B v l) : ∃ a c, v = .slice a l.length c := by
 obtain ⟨g, cap, cur, fz, e, -⟩ := h
 exact ⟨_, _, e⟩
theorem RowM.below (h : RowM w B v l) (hb : Below w.heap.size w w') : RowM w' B v l := by
 obtain ⟨g, cap, cur, fz, h0, h1, h2, h3⟩ := h
 exact ⟨g, cap, cur, fz, h0, h1, (hb.block g (Array.getElem?_eq_some_iff.1 h2).1).trans h2, h3⟩
theorem RowM.bytes (h : RowM w B v l) : BytesAt w v l := by
 obtain ⟨g, cap, cur, fz, rfl, h1, h2, h3, h4, h5, h6, h7⟩ := h
 refine ⟨_, _, rfl, fun i hi => ⟨g, rfl, (Array.getElem?_eq_some_iff.1 h2).1, ?_⟩⟩
 have e : (cur.toList.take l.length)[i]? = cur[i]? := by rw [List.getElem?_take, if_pos hi]; simp
 rw [h7] at e
 have e2 : w.cell? ⟨g, i, none⟩ = cur[i]? := by simp [World.cell?, h2]
 rw [e2, <- e]
 simp [Lib.byteCells, hi]
theorem RowM.base {B' : Nat} (h : RowM w B v l) (hB : B' <= B) : RowM w B' v l := by
 obtain ⟨g, cap, cur, fz, h0, h1, h2⟩ := h
 exact ⟨g, cap, cur, fz, h0, Nat.le_trans hB h1, h2⟩
end
end
section
open Go.RowKit Go.Maps
def numL (D : List Int) : List (Int × Int) := (0, 0) :: (1, 1) :: D.mapIdx (fun i h => (h, 2 + (i : Int)))
def ent (ns : List Nd) (D : List Int) (h : Int) : List Value := [.int .i64 (nd ns (pl h)).v, .int .i64 (numD D (nd ns (pl h)).l), .int .i64 (numD D (nd ns (pl h)).h)]
def entL (ns : List Nd) (D : List Int) : List Value := D.flatMap (ent ns D)
structure NumSt (B A : Nat) (w : World) (s b : Nat) (O : Nat -> Prop) (vars : Nat) (room : Int) (ns : List Nd) (nb sb fb ob bm : Nat) (D : List Int) (v : Value) : Prop where
 space : SpaceAt A w s b O vars room ns
 out : ∀ k, O k -> k < B
 sB : s < B
 hB : B <= w.heap.size
 cn : w.cell? ⟨nb, 0, none⟩ = some (.map (some bm))
 cs : w.cell? ⟨sb, 0, none⟩ = some (.pointer (some ⟨s, 0, none⟩))
 cf : w.cell? ⟨fb, 0, none⟩ = some (.func (.func 84) #[] #[.pointer (some ⟨nb, 0, none⟩), .pointer (some ⟨sb, 0, none⟩), .pointer (some ⟨fb, 0, none⟩), .pointer (some ⟨ob, 0, none⟩)])
 co : w.heap[ob]? = some (.cells #[v] 98)
 map : ∃ Dm, w.ownsMap Tryz.prog 3 (plainElem Tryz.prog 3) bm (numL D).length Dm /\ IRep Dm (numL D)
 row : w.ownsRow B 102 3 v D.length (entL ns D)
 lt : nb < w.heap.size /\ sb < w.heap.size /\ fb < w.heap.size /\ bm < w.heap.size
 ge : B <= nb /\ B <= sb /\ B <= fb /\ B <= ob /\ B <= bm
 ne : nb ≠ ob /\ sb ≠ ob /\ fb ≠ ob /\ bm ≠ ob /\ nb ≠ bm /\ sb ≠ bm /\ fb ≠ bm
 own : ∀ k, v.ownBlock = some k -> k ≠ nb /\ k ≠ sb /\ k ≠ fb /\ k ≠ ob /\ k ≠ bm
def Wr (ob bm : Nat) (v : Value) (k : Nat) : Prop := k = ob \/ k = bm \/ v.ownBlock = some k
structure Fr (ob bm : Nat) (v : Value) (w w' : World) (v' : Value) : Prop where
 kept : Kept (Wr ob bm v) w w'
 own : ∀ k, v'.ownBlock = some k -> v.ownBlock = some k \/ w.heap.size <= k
section
variable {B A : Nat} {w w' w'' : World} {s b : Nat} {O : Nat -> Prop} {vars : Nat} {room : Int} {ns : List Nd} {nb sb fb ob bm : Nat} {D D' : List Int} {v v' v'' : Value}
theorem Fr.refl : Fr ob bm v w w v := ⟨Kept.refl _ _, fun _ h => .inl h⟩
theorem Fr.trans (h : Fr ob bm v w w' v') (k : Fr ob bm v' w' w'' v'') : Fr ob bm v w w'' v'' :=
 ⟨h.kept.andThen k.kept (fun i hi hlt => by
  rcases hi with e | e | e
  ·exact .inl e
  ·exact .inr (.inl e)
  ·rcases h.own i e with e | e
   ·exact .inr (.inr e)
   ·omega), fun i hi => by
  rcases k.own i hi with e | e
  ·exact h.own i e
  ·exact .inr (Nat.le_trans h.kept.size e)⟩
theorem Fr.of_below (hb : Below w.heap.size w w') : Fr ob bm v w w' v := ⟨Kept.of_below hb _, fun _ h => .inl h⟩
theorem NumSt.olt (h : NumSt B A w s b O vars room ns nb sb fb ob bm D v) : ob < w.heap.size := (Array.getElem?_eq_some_iff.1 h.co).1
theorem NumSt.c0 (h : NumSt B A w s b O vars room ns nb sb fb ob bm D v) : w.cell? ⟨ob, 0, none⟩ = some v := by simp [World.cell?, h.co]
theorem row3_new {N n : Nat} {cs : List Value} {t : TypeId} (h : w.ownsRow N t 3 v n cs) (hb : Below w.heap.size w w') : w'.ownsRow N t 3 v n cs := by
 refine ⟨h.1, ?_⟩
 rcases h.2 with h1 | ⟨g, cap, cur, h1, h2, h3, h4⟩
 ·exact .inl h1
 ·exact .inr ⟨g, cap, cur, h1, h2, (hb.block g (h.lt g (by rw [h1]; rfl)).2).trans h3, h4⟩
theorem NumSt.new (h : NumSt B A w s b O vars room ns nb sb fb ob bm D v) (hb : Below w.heap.size w w') : NumSt B A w' s b O vars room ns nb sb fb ob bm D v := by
 obtain ⟨l1, l2, l3, l4⟩ := h.lt
 obtain ⟨Dm, m1, m2⟩ := h.map
 have hsz := hb.size
 exact ⟨h.space.new hb, h.out, h.sB, Nat.le_trans h.hB hsz, (hb.cell (p := ⟨nb, 0, none⟩) l1).trans h.cn, (hb.cell (p := ⟨sb, 0, none⟩) l2).trans h.cs, (hb.cell (p := ⟨fb, 0, none⟩) l3).trans h.cf, (hb.block ob h.olt).trans h.co,
  ⟨Dm, ownsMap_kept m1 (Kept.of_below hb (fun _ => False)) (fun h => h), m2⟩, row3_new h.row hb, ⟨by omega, by omega, by omega, by omega⟩, h.ge, h.ne, h.own⟩
theorem NumSt.kept {S : Nat -> Prop} (h : NumSt B A w s b O vars room ns nb sb fb ob bm D v) (hk : Kept S w w') (hS : ∀ k, S k -> B <= k /\ k ≠ nb /\ k ≠ sb /\ k ≠ fb /\ k ≠ ob /\ k ≠ bm /\ v.ownBlock ≠ some k) : NumSt B A w' s b O vars room ns nb sb fb ob bm D v := by
 obtain ⟨l1, l2, l3, l4⟩ := h.lt
 obtain ⟨Dm, m1, m2⟩ := h.map
 have hsz := hk.size
 refine ⟨h.space.kept hk (fun k ho hs => ?_) (fun hs => ?_), h.out, h.sB, Nat.le_trans h.hB hsz, (hk.cell (a := ⟨nb, 0, none⟩) l1 (fun hs => (hS _ hs).2.1 rfl)).trans h.cn, (hk.cell (a := ⟨sb, 0, none⟩) l2 (fun hs => (hS _ hs).2.2.1 rfl)).trans h.cs, (hk.cell (a := ⟨fb, 0, none⟩) l3 (fun hs => (hS _ hs).2.2.2.1 rfl)).trans h.cf, (hk.block ob h.olt (fun hs => (hS _ hs).2.2.2.2.1 rfl)).trans h.co,
  ⟨Dm, ownsMap_kept m1 hk (fun hs => (hS _ hs).2.2.2.2.2.1 rfl), m2⟩, ⟨h.row.1, ?_⟩, ⟨by omega, by omega, by omega, by omega⟩, h.ge, h.ne, h.own⟩
 ·have h1 := h.out k ho
  have h2 := (hS k hs).1
  omega
 ·have h1 := h.sB
  have h2 := (hS s hs).1
  omega
 ·rcases h.row.2 with h1 | ⟨g, cap, cur, h1, h2, h3, h4⟩
  ·exact .inl h1
  ·exact .inr ⟨g, cap, cur, h1, h2, (hk.block g (h.row.lt g (by rw [h1]; rfl)).2 (fun hs => (hS _ hs).2.2.2.2.2.2 (by rw [h1]; rfl))).trans h3, h4⟩
theorem NumSt.grow {w8 w9 w10 : World} {v8 : Value} {h : Int} (hS : NumSt B A w s b O vars room ns nb sb fb ob bm D v) (hk8 : Kept (fun k => v.ownBlock = some k) w w8) (hrow : w8.ownsRow B 102 3 v8 (D ++ [h]).length (entL ns (D ++ [h]))) (hloc : ∀ k, v8.ownBlock = some k -> v.ownBlock = some k \/ w.heap.size <= k)
  (h9 : w9 = w8.setCell ⟨ob, 0, none⟩ v8) (hk10 : Kept (fun k => k = bm) w9 w10) (hmap : ∃ Dm, w10.ownsMap Tryz.prog 3 (plainElem Tryz.prog 3) bm (numL (D ++ [h])).length Dm /\ IRep Dm (numL (D ++ [h]))) :
  NumSt B A w10 s b O vars room ns nb sb fb ob bm (D ++ [h]) v8 /\ Fr ob bm v w w10 v8 := by
 subst h9
 obtain ⟨l1, l2, l3, l4⟩ := hS.lt
 obtain ⟨g1, g2, g3, g4, g5⟩ := hS.ge
 obtain ⟨e1, e2, e3, e4, e5, e6, e7⟩ := hS.ne
 have hol := hS.olt
 have hown := fun k hk => hS.own k hk
 have ov : v.ownBlock ≠ some ob := fun e => (hown _ e).2.2.2.1 rfl
 have hk9 : Kept (fun k => k = ob) w8 (w8.setCell ⟨ob, 0, none⟩ v8) := Kept.setCell _ _ _ rfl
 have hK : Kept (Wr ob bm v) w w10 := ((hk8.mono (fun k e => .inr (.inr e))).trans (hk9.mono (fun k e => .inl e))).trans (hk10.mono (fun k e => .inr (.inl e)))
 have hsz := hK.size
 have hwr : ∀ k, Wr ob bm v k -> B <= k /\ k ≠ nb /\ k ≠ sb /\ k ≠ fb := fun k hk => by
  rcases hk with e | e | e
  ·subst e; exact ⟨g4, fun e => e1 e.symm, fun e => e2 e.symm, fun e => e3 e.symm⟩
  ·subst e; exact ⟨g5, fun e => e5 e.symm, fun e => e6 e.symm, fun e => e7 e.symm⟩
  ·have := hown k e
   exact ⟨(hS.row.lt k e).1, this.1, this.2.1, this.2.2.1⟩
 have b8 : w8.heap[ob]? = some (.cells #[v] 98) := (hk8.block ob hol ov).trans hS.co
 have b9 : (w8.setCell ⟨ob, 0, none⟩ v8).heap[ob]? = some (.cells #[v8] 98) := by
  obtain ⟨hlt, hk⟩ := Array.getElem?_eq_some_iff.1 b8
  show (w8.heap.modify ob _)[ob]? = _
  rw [Array.getElem?_eq_getElem (by rw [Array.size_modify]; exact hlt), Array.getElem_modify_self, hk]
  rfl
 have hv8 : ∀ k, v8.ownBlock = some k -> k ≠ nb /\ k ≠ sb /\ k ≠ fb /\ k ≠ ob /\ k ≠ bm := fun k hk => by
  rcases hloc k hk with e | e
  ·exact hown k e
  ·omega
 have o8 : ob < w8.heap.size := Nat.lt_of_lt_of_le hol hk8.size
 refine ⟨⟨hS.space.kept hK (fun k ho hs => ?_) (fun hs => ?_), hS.out, hS.sB, Nat.le_trans hS.hB hsz, (hK.cell (a := ⟨nb, 0, none⟩) l1 (fun hs => (hwr _ hs).2.1 rfl)).trans hS.cn, (hK.cell (a := ⟨sb, 0, none⟩) l2 (fun hs => (hwr _ hs).2.2.1 rfl)).trans hS.cs, (hK.cell (a := ⟨fb, 0, none⟩) l3 (fun hs => (hwr _ hs).2.2.2 rfl)).trans hS.cf,
  (hk10.block ob (Nat.lt_of_lt_of_le o8 hk9.size) (fun e => e4 e.symm)).trans b9, hmap, ⟨hrow.1, ?_⟩, ⟨by omega, by omega, by omega, by omega⟩, hS.ge, hS.ne, hv8⟩, ⟨hK, hloc⟩⟩
 ·have h1 := hS.out k ho
  have h2 := (hwr k hs).1
  omega
 ·have h1 := hS.sB
  have h2 := (hwr s hs).1
  omega
 ·rcases hrow.2 with h1 | ⟨g, cap, cur, h1, h2, h3, h4⟩
  ·exact .inl h1
  ·have hg := hrow.lt g (by rw [h1]; rfl)
   have hgv := hv8 g (by rw [h1]; rfl)
   exact .inr ⟨g, cap, cur, h1, h2, ((hk10.block g (Nat.lt_of_lt_of_le hg.2 hk9.size) hgv.2.2.2.2).trans (hk9.block g hg.2 hgv.2.2.2.1)).trans h3, h4⟩
end
end
section
open Go.RowKit Go.Maps
section
variable {B A : Nat} {w w' w'' : World} {s b : Nat} {O : Nat -> Prop} {vars : Nat} {room : Int} {ns : List Nd} {nb sb fb ob bm : Nat} {D D' : List Int} {v v' v'' : Value}
theorem Fr.put {nk i : Nat} {y : Value} (h : Fr ob bm v w w' v') (hn : w.heap.size <= nk) : Fr ob bm v w (w'.setCell ⟨nk, i, none⟩ y) v' :=
 ⟨h.kept.andThen (Kept.setCell (S := fun k => k = nk) w' ⟨nk, i, none⟩ y rfl) (fun j e hlt => by have e' : j = nk := e; omega), h.own⟩
theorem beside {nk : Nat} (hS : NumSt B A w s b O vars room ns nb sb fb ob bm D v) (hn : w.heap.size <= nk) : B <= nk /\ nk ≠ nb /\ nk ≠ sb /\ nk ≠ fb /\ nk ≠ ob /\ nk ≠ bm /\ v.ownBlock ≠ some nk := by
 obtain ⟨l1, l2, l3, l4⟩ := hS.lt
 have := hS.olt
 have := hS.hB
 exact ⟨by omega, by omega, by omega, by omega, by omega, by omega, fun e => by have := (hS.row.lt nk e).2; omega⟩
end
end
section
open Go.RowKit Go.Maps
section
variable {B s b : Nat} {O : Nat -> Prop} {vars : Nat} {room : Int} {ns : List Nd} {w w' : World}
theorem good_nil (vars : Nat) : Good vars [] := ⟨⟨fun j h => by simp at h, fun j h => by simp at h, fun j h => by simp at h, fun j h => by simp at h⟩, fun i j h => by simp at h, fun i h => by simp at h, fun i h => by simp at h, fun i h => by simp at h⟩
theorem bnew_any (vars : Nat) (hv : vars <= 24) (room : Int) (h0 : 0 <= room) (h1 : room <= 4000) (w : World) (B : Nat) (hB : B <= w.heap.size) :
  Calls Tryz.prog 31 #[.int .i64 (vars : Int), .int .i64 room] w fun e w' => ∃ s b O, e = .returned (.tuple #[.pointer (some ⟨s, 0, none⟩), .nilIface]) /\ SpaceAt B w' s b O vars room [] /\ w.heap.size <= s /\ (∀ k, O k -> w.heap.size <= k) /\ Below w.heap.size w w' := by
 have HN := Lib.hid (new_any room h0 h1 w w.heap.size (Nat.le_refl _))
 go_enter Tryz.func31, Tryz.ntmps31
 go_wp2_with fail
 refine HN.out.mono ?_
 rintro e w1 ⟨rfl, hA1, hb1⟩
 have hs := hb1.size
 have hO := (fun k (h : Own (w.heap.size + 1) w.heap.size (.slice none 0 0) k) => (show w.heap.size <= k /\ k < w1.heap.size from by
  obtain ⟨D, hD, -⟩ := hA1.hmap
  have hbm := hD.lt
  have hlt := hA1.lt
  rcases h with h | h | h
  ·omega
  ·omega
  ·simp [Value.ownBlock] at h))
 have hb2 := hb1.alloc hs (.cells #[.pointer (some ⟨w.heap.size + 1, 0, none⟩), .int .i64 (vars : Int)] 63)
 have hA2 := hA1.kept (Kept.alloc (fun _ => False) w1 (.cells #[.pointer (some ⟨w.heap.size + 1, 0, none⟩), .int .i64 (vars : Int)] 63)) (fun _ _ h => h)
 have hfin : SpaceAt B (w1.alloc (.cells #[.pointer (some ⟨w.heap.size + 1, 0, none⟩), .int .i64 (vars : Int)] 63)) w1.heap.size (w.heap.size + 1) (Own (w.heap.size + 1) w.heap.size (.slice none 0 0)) vars room [] := by
  have hA3 : ArenaAt B (w1.alloc (.cells #[.pointer (some ⟨w.heap.size + 1, 0, none⟩), .int .i64 (vars : Int)] 63)) (w.heap.size + 1) w.heap.size (.slice none 0 0) [] [] room 2 :=
   ⟨hA2.lt, hA2.croom, hA2.cnodes, hA2.cmap, hA2.cnext, hA2.froz, ownsRow_base hA2.row hB, hA2.hmap, hA2.d1, hA2.d2, hA2.d3, by omega, hB⟩
  refine ⟨⟨_, _, [], 2, hA3, ⟨fun p h => by simp at h, fun j h => by simp at h, by simp, fun j h => by simp at h⟩, ⟨0, rfl, by simp, fun j h => by omega⟩, fun _ h => h⟩, fun k hk => ⟨by have := (hO k hk).1; omega, by have := (hO k hk).2; simp; omega⟩, fun ho => by have := (hO _ ho).2; omega, by simp, by simp, by simp⟩
 have HF := Lib.hid hfin
 have HB2 := Lib.hid hb2
 have HO := Lib.hid hO
 clear HN hA1 hA2 hfin hb2 hO
 go_wp2
 go_ret2
 exact ⟨_, _, _, rfl, HF.out, hs, fun k hk => (HO.out k hk).1, HB2.out⟩
theorem vars_any (h : SpaceAt B w s b O vars room ns) : Calls Tryz.prog 27 #[.pointer (some ⟨s, 0, none⟩)] w fun e w' => e = .returned (.int .i64 (vars : Int)) /\ w = w' := by
 have c1 := h.c1
 clear h
 go_enter Tryz.func27, Tryz.ntmps27
 go_wp2
 go_ret
 exact ⟨rfl, rfl⟩
theorem At_any (x : Int) (n : Nat) (h0 : 0 < n) (h1 : n <= 1000000) (w : World) :
  Calls Tryz.prog 62 #[.int .i64 x, .int .i64 (n : Int)] w fun e w' => e = .returned (.int .i64 (pickV x n : Int)) /\ w = w' := by
 have hp := pickV_lt x h0
 have e1 : IntKind.u64.wrap x = x % 18446744073709551616 := by rw [IntKind.wrap_u64]
 have e2 : IntKind.u64.wrap (n : Int) = (n : Int) := IntWalk.u64_in _ ⟨by omega, by omega⟩
 have e3 : Int.tmod (x % 18446744073709551616) (n : Int) = (pickV x n : Int) := by
  unfold pickV
  obtain ⟨m, hm⟩ : ∃ m : Nat, x % 18446744073709551616 = (m : Int) := ⟨(x % 18446744073709551616).toNat, by omega⟩
  rw [hm]; simp
  rfl
 have e4 : IntKind.i64.wrap (pickV x n : Int) = (pickV x n : Int) := IntWalk.i64_in _ ⟨by omega, by omega⟩
 have e5 : ((n : Int) == 0) = false := by rw [beq_eq_false_iff_ne]; omega
 generalize pickV x n = p at *
 go_enter Tryz.func62, Tryz.ntmps62
 go_wp2
 go_ret
 exact ⟨rfl, rfl⟩
theorem free_op (h : SpaceAt B w s b O vars room ns) (hr : Ranked ns) (hl : ns.length <= 90000) (hB : B <= w.heap.size) (bf : Nat) {cp : Nat} (fs : List Int) (hF : IntsAt w bf fs) (hfl : fs.length <= 1000) :
  Calls Tryz.prog 71 #[.pointer (some ⟨s, 0, none⟩), .slice (some ⟨bf, 0, none⟩) fs.length cp] w fun e w' => ∃ n : Int, e = .returned (.int .i64 n) /\ ∃ O', SpaceAt B w' s b O' vars room (swept ns (marksOf ns fs)) /\ Moves O O' w w' := by
 have c0 := h.c0
 have HC := Lib.hid (spSweep (cp := cp) h hr hl hB bf fs hF hfl)
 generalize fs.length = n at *
 clear h hF hr
 go_enter Tryz.func71, Tryz.ntmps71
 go_wp2_with fail
 refine HC.out.mono ?_
 rintro e w1 ⟨n, rfl, hO⟩
 go_wp2
 go_ret
 exact ⟨n, rfl, hO⟩
end
end
end Go.Proofs.YtcjjekhecjmaeaaGreatDoor
