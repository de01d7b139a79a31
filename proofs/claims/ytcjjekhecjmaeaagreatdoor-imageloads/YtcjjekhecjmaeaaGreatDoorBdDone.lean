/- What was worked out by handles, in a map; what a join leaves. -/
import Derived.Test.YtcjjekhecjmaeaaGreatDoorBdAsk
import Derived.Test.YtcjjekhecjmaeaaGreatDoorBdMakes
namespace Go.Proofs.YtcjjekhecjmaeaaGreatDoor
section
open Go.RowKit Go.Maps
structure WS (B : Nat) (w : World) (s b wk dm : Nat) (O : Nat -> Prop) (F : FuncId) (op : Bool) (vars : Nat) (room : Int) (ns : List Nd) (m : List (Nd × Int)) : Prop where
  space : SpaceAt B w s b O vars room ns
  work : WorkAt B w wk dm s F m
  good : Good vars ns
  memo : MemoOk op ns m
  o1 : ¬ O wk
  o2 : ¬ O dm
  sd : s ≠ dm
  hB : B <= w.heap.size
structure MM (O O' : Nat -> Prop) (dm : Nat) (w w' : World) : Prop where
  kept : Kept (fun j => O j \/ j = dm) w w'
  own : ∀ k, O' k -> O k \/ w.heap.size <= k
section
variable {B s b wk dm : Nat} {O O' O'' : Nat -> Prop} {F : FuncId} {op : Bool} {vars : Nat} {room : Int} {ns : List Nd} {m : List (Nd × Int)} {w w' w'' : World} {k : Nd}
theorem WS.new (h : WS B w s b wk dm O F op vars room ns m) (hb : Below w.heap.size w w') : WS B w' s b wk dm O F op vars room ns m :=
  ⟨h.space.new hb, h.work.new hb, h.good, h.memo, h.o1, h.o2, h.sd, Nat.le_trans h.hB hb.size⟩
theorem MM.of_below (hb : Below w.heap.size w w') : MM O O dm w w' := ⟨Kept.of_below hb _, fun _ h => .inl h⟩
theorem MM.trans (h : MM O O' dm w w') (k : MM O' O'' dm w' w'') : MM O O'' dm w w'' :=
  ⟨h.kept.andThen k.kept (fun i hi hlt => by
      rcases hi with hi | hi
      · rcases h.own i hi with h1 | h1
        · exact .inl h1
        · omega
      · exact .inr hi), fun i hi => by
    rcases k.own i hi with h1 | h1
    · exact h.own i h1
    · exact .inr (Nat.le_trans h.kept.size h1)⟩
theorem MM.size (h : MM O O' dm w w') : w.heap.size <= w'.heap.size := h.kept.size
theorem MM.beside (h : MM O O' dm w w') {j : Nat} (hlt : j < w.heap.size) (hn : ¬ O j) : ¬ O' j := fun ho => by
  rcases h.own j ho with h1 | h1
  · exact hn h1
  · omega
theorem MM.cell (h : MM O O' dm w w') {a : Addr} (hlt : a.block < w.heap.size) (hn : ¬ O a.block) (hd : a.block ≠ dm) : w'.cell? a = w.cell? a := h.kept.cell hlt (fun ho => ho.elim hn hd)
theorem MM.frozen (h : MM O O' dm w w') {a : Addr} (hlt : a.block < w.heap.size) (hn : ¬ O a.block) (hd : a.block ≠ dm) : w'.frozen? a = w.frozen? a := h.kept.frozen hlt (fun ho => ho.elim hn hd)
theorem WS.moved (h : WS B w s b wk dm O F op vars room ns m) {ns' : List Nd} (hS : SpaceAt B w' s b O' vars room ns') (hm : Moves O O' w w') (hg : Good vars ns') (hx : Ext ns ns') : WS B w' s b wk dm O' F op vars room ns' m :=
  ⟨hS, h.work.kept hm.kept h.o1 h.o2, hg, h.memo.ext h.good.ranked hx, hm.beside h.work.lt h.o1, hm.beside h.work.dlt h.o2, h.sd, Nat.le_trans h.hB hm.size⟩
end
end
section
open Go.RowKit Go.Maps
structure Tri (w : World) (bk : Nat) (a b c : Int) : Prop where
  lt : bk < w.heap.size
  c0 : w.cell? ⟨bk, 0, none⟩ = some (.int .i64 a)
  c1 : w.cell? ⟨bk, 1, none⟩ = some (.int .i64 b)
  c2 : w.cell? ⟨bk, 2, none⟩ = some (.int .i64 c)
  fz : ∀ i, w.frozen? ⟨bk, i, none⟩ = false
section
variable {w w' : World} {bk bk' i : Nat} {a b c : Int}
theorem Tri.kept {S : Nat -> Prop} (h : Tri w bk a b c) (hk : Kept S w w') (hn : ¬ S bk) : Tri w' bk a b c :=
  ⟨Nat.lt_of_lt_of_le h.lt hk.size, (hk.cell (a := ⟨bk, 0, none⟩) h.lt hn).trans h.c0, (hk.cell (a := ⟨bk, 1, none⟩) h.lt hn).trans h.c1, (hk.cell (a := ⟨bk, 2, none⟩) h.lt hn).trans h.c2, fun i => (hk.frozen (a := ⟨bk, i, none⟩) h.lt hn).trans (h.fz i)⟩
theorem Tri.new (h : Tri w bk a b c) (hb : Below w.heap.size w w') : Tri w' bk a b c := h.kept (Kept.of_below hb (fun _ => False)) (fun h => h)
theorem Tri.other (h : Tri w bk a b c) (u : Value) (hne : bk ≠ bk') : Tri (w.setCell ⟨bk', i, none⟩ u) bk a b c := h.kept (Kept.setCell (S := fun j => j = bk') w ⟨bk', i, none⟩ u rfl) hne
end
section
variable {B s b wk dm : Nat} {O : Nat -> Prop} {F : FuncId} {op : Bool} {vars : Nat} {room : Int} {ns : List Nd} {m : List (Nd × Int)} {w : World} {k : Nd}
end
end
section
open Go.RowKit Go.Maps
abbrev Join : Type := List Nd -> List (Nd × Int) -> Int -> Int -> List Nd × List (Nd × Int) × Int
def quant (jf : Bool -> Bool -> Bool) (ns : List Nd) (h : Int) (v : Nat) (f : Nat -> Bool) : Bool := jf (sem ns h (turn f v false)) (sem ns h (turn f v true))
structure DoneOk (jf : Bool -> Bool -> Bool) (v : Int) (ns : List Nd) (dn : List (Int × Int)) : Prop where
  keys : ∀ p ∈ dn, hasB ns p.1 = true
  has : ∀ p ∈ dn, hasB ns p.2 = true
  top : ∀ p ∈ dn, topOf ns p.1 <= topOf ns p.2
  sem : ∀ p ∈ dn, ∀ f, sem ns p.2 f = quant jf ns p.1 v.toNat f
section
variable {vars : Nat} {v : Int} {jf : Bool -> Bool -> Bool} {P : List Nd -> List (Nd × Int) -> Prop} {J : Join}
theorem quant_ext {ns ns' : List Nd} (hr : Ranked ns) (he : Ext ns ns') {h : Int} (hh : hasB ns h = true) (w : Nat) (f : Nat -> Bool) : quant jf ns' h w f = quant jf ns h w f := by
  unfold quant; rw [sem_ext hr he hh, sem_ext hr he hh]
theorem DoneOk.ext {ns ns' : List Nd} {dn : List (Int × Int)} (hr : Ranked ns) (h : DoneOk jf v ns dn) (he : Ext ns ns') : DoneOk jf v ns' dn :=
  ⟨fun p hp => he.has _ (h.keys p hp), fun p hp => he.has _ (h.has p hp), fun p hp => by rw [he.top _ (h.keys p hp), he.top _ (h.has p hp)]; exact h.top p hp,
   fun p hp f => by rw [sem_ext hr he (h.has p hp), quant_ext hr he (h.keys p hp)]; exact h.sem p hp f⟩
end
end
section
open Go.RowKit Go.Maps
theorem lawI : Keyed Tryz.prog 3 := int_keyed Tryz.underlying3
theorem keyI {x : Int} (h : I64 x) : keyOf Tryz.prog 3 (.int .i64 x) = some (.int .i64 x) := keyOf_int_mk Tryz.underlying3 (wf_of h)
def IRep (D : DataW Unit) (L : List (Int × Int)) : Prop := Rep I64 (fun x => Lit.int .i64 x) (fun y : Int => .lit (.int .i64 y)) D L
section
variable {w : World} {bm n : Nat} {D : DataW Unit} {L : List (Int × Int)}
theorem ilook_found (hD : w.ownsMap Tryz.prog 3 (plainElem Tryz.prog 3) bm n D) (hR : IRep D L) {p : Int × Int} (hp : p ∈ L) :
    (Instr.lookup 147 (.map (some bm)) (.int .i64 p.1) true).run Tryz.prog w = .ok (.tuple #[.int .i64 p.2, .bool true]) w := by
  obtain ⟨v, ps, hrun, hv⟩ := hD.look_ok lawI Tryz.underlying147 (zeroInt w) (zd := .lit (.int .i64 0)) (zp := []) (elInt ⟨by omega, by omega⟩) (keyI (Rep.oks hR p hp))
  rw [Rep.at' hR p hp] at hv
  obtain ⟨a, rfl, hz, -⟩ := plainElem_int_inv Tryz.underlying3 hv
  rw [(Rep.has hR p.1 (Rep.oks hR p hp)).2 (List.mem_map_of_mem hp)] at hrun
  simp at hz
  rw [<- hz.1] at hrun
  exact hrun
theorem ilook_none (hD : w.ownsMap Tryz.prog 3 (plainElem Tryz.prog 3) bm n D) (hR : IRep D L) {a : Int} (ha : I64 a) (hn : a ∉ L.map Prod.fst) :
    (Instr.lookup 147 (.map (some bm)) (.int .i64 a) true).run Tryz.prog w = .ok (.tuple #[.int .i64 0, .bool false]) w := by
  obtain ⟨v, ps, hrun, hv⟩ := hD.look_ok lawI Tryz.underlying147 (zeroInt w) (zd := .lit (.int .i64 0)) (zp := []) (elInt ⟨by omega, by omega⟩) (keyI ha)
  have hh := Rep.not hR ha hn
  rw [atKey_of_not_has hh] at hv
  obtain ⟨c, rfl, hz, -⟩ := plainElem_int_inv Tryz.underlying3 hv
  rw [hh] at hrun
  simp at hz
  rw [<- hz.1] at hrun
  exact hrun
theorem istore (hD : w.ownsMap Tryz.prog 3 (plainElem Tryz.prog 3) bm L.length D) (hR : IRep D L) (hl : L.length < 1000000) {a : Int} (ha : I64 a) {x : Int} (hx : I64 x) :
    ∃ w' D', (Instr.mapUpdate 147 (.map (some bm)) (.int .i64 a) (.int .i64 x)).run Tryz.prog w = .ok () w' /\ w'.ownsMap Tryz.prog 3 (plainElem Tryz.prog 3) bm (memoPut L a x).length D' /\ IRep D' (memoPut L a x) /\ Kept (fun k => k = bm) w w' := by
  obtain ⟨w', hrun, h1, h2⟩ := hD.update lawI Tryz.underlying147 (by unfold maxLen; omega) (keyI ha) (elInt hx)
  have hR' : IRep (D.put (.int .i64 a) (.lit (.int .i64 x))) (memoPut L a x) := by
    unfold memoPut
    by_cases hm : a ∈ L.map Prod.fst
    · rw [if_pos hm]; exact Rep.put_over hR (fun a b _ _ e => by injection e) (fun _ => trivial) x hm
    · rw [if_neg hm]; exact Rep.put hR (fun a b _ _ e => by injection e) (fun _ => trivial) ha hm x
  exact ⟨w', _, hrun, hR'.size ▸ ownsMap_norm h1, hR', Kept.of_grown h2 (fun i h => by cases h; rfl)⟩
end
structure JSt (dk : Nat) (D : Nat -> Prop) (st : World -> (Nat -> Prop) -> List (Nd × Int) -> Prop) : Prop where
  new : ∀ w w' O m, st w O m -> Below w.heap.size w w' -> st w' O m
  moves : ∀ w w' O O' m, st w O m -> Moves O O' w w' -> st w' O' m
  beside : ∀ w w' O m, st w O m -> Kept (fun j => j = dk) w w' -> st w' O m
  own : ∀ w O m, st w O m -> ∀ j, D j -> j < w.heap.size /\ ¬ O j
structure DoneAt (w : World) (dk : Nat) (dn : List (Int × Int)) : Prop where
  hmap : ∃ D, w.ownsMap Tryz.prog 3 (plainElem Tryz.prog 3) dk dn.length D /\ IRep D dn
theorem DoneAt.lt {w : World} {dk : Nat} {dn : List (Int × Int)} (h : DoneAt w dk dn) : dk < w.heap.size := by obtain ⟨D, hD, -⟩ := h.hmap; exact hD.lt
theorem DoneAt.kept {S : Nat -> Prop} {w w' : World} {dk : Nat} {dn : List (Int × Int)} (h : DoneAt w dk dn) (hk : Kept S w w') (hn : ¬ S dk) : DoneAt w' dk dn := by
  obtain ⟨D, hD, hR⟩ := h.hmap; exact ⟨D, ownsMap_kept hD hk hn, hR⟩
structure JW (B : Nat) (w : World) (s b dk : Nat) (O D : Nat -> Prop) (st : World -> (Nat -> Prop) -> List (Nd × Int) -> Prop) (vars : Nat) (room : Int) (v : Int) (jf : Bool -> Bool -> Bool) (P : List Nd -> List (Nd × Int) -> Prop) (ns : List Nd) (m : List (Nd × Int)) (dn : List (Int × Int)) : Prop where
  space : SpaceAt B w s b O vars room ns
  st : st w O m
  done : DoneAt w dk dn
  good : Good vars ns
  memo : P ns m
  ok : DoneOk jf v ns dn
  o : ¬ O dk
  sk : s ≠ dk
  Dk : ¬ D dk
  Ds : ¬ D s
  hB : B <= w.heap.size
structure MJ (O O' D : Nat -> Prop) (dk : Nat) (w w' : World) : Prop where
  kept : Kept (fun j => O j \/ D j \/ j = dk) w w'
  own : ∀ k, O' k -> O k \/ w.heap.size <= k
section
variable {B s b dk : Nat} {O O' O'' D : Nat -> Prop} {st : World -> (Nat -> Prop) -> List (Nd × Int) -> Prop} {vars : Nat} {room : Int} {v : Int} {jf : Bool -> Bool -> Bool} {P : List Nd -> List (Nd × Int) -> Prop} {ns : List Nd} {m : List (Nd × Int)} {dn : List (Int × Int)} {w w' w'' : World}
theorem JW.new (hS : JSt dk D st) (h : JW B w s b dk O D st vars room v jf P ns m dn) (hb : Below w.heap.size w w') : JW B w' s b dk O D st vars room v jf P ns m dn :=
  ⟨h.space.new hb, hS.new _ _ _ _ h.st hb, h.done.kept (Kept.of_below hb (fun _ => False)) (fun h => h), h.good, h.memo, h.ok, h.o, h.sk, h.Dk, h.Ds, Nat.le_trans h.hB hb.size⟩
theorem MJ.of_below (hb : Below w.heap.size w w') : MJ O O D dk w w' := ⟨Kept.of_below hb _, fun _ h => .inl h⟩
theorem MJ.size (h : MJ O O' D dk w w') : w.heap.size <= w'.heap.size := h.kept.size
theorem MJ.trans (h : MJ O O' D dk w w') (k : MJ O' O'' D dk w' w'') : MJ O O'' D dk w w'' :=
  ⟨h.kept.andThen k.kept (fun i hi hlt => by
      rcases hi with hi | hi
      · rcases h.own i hi with h1 | h1
        · exact .inl h1
        · omega
      · exact .inr hi), fun i hi => by
    rcases k.own i hi with h1 | h1
    · exact h.own i h1
    · exact .inr (Nat.le_trans h.kept.size h1)⟩
theorem MJ.beside (h : MJ O O' D dk w w') {j : Nat} (hlt : j < w.heap.size) (hn : ¬ O j) : ¬ O' j := fun ho => by
  rcases h.own j ho with h1 | h1
  · exact hn h1
  · omega
end
end
end Go.Proofs.YtcjjekhecjmaeaaGreatDoor
