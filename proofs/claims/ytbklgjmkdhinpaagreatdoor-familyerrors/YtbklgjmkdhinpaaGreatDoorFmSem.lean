/- What a family's handle has; the same family is the same handle. -/
import Derived.Test.YtbklgjmkdhinpaaGreatDoorBdNode
import Derived.RangeFuncOwn
namespace Go.Proofs.YtbklgjmkdhinpaaGreatDoor.Bd
open Go.RowKit Go.Maps
def opS (op a b c : Bool) : Bool := if op = true then (if a = true then b else c) else (a != b)
def minT (ns : List Nd) (k : Nd) : Int := min (min (topOf ns k.v) (topOf ns k.l)) (topOf ns k.h)
def memoPut {α : Type} [DecidableEq α] (m : List (α × Int)) (k : α) (h : Int) : List (α × Int) := if k ∈ m.map Prod.fst then m.map (fun q => if q.1 = k then (q.1, h) else q) else m ++ [(k, h)]
section
variable {α : Type} [DecidableEq α] {m : List (α × Int)} {k : α}
theorem memoPut_mem {h : Int} {p : α × Int} (hp : p ∈ memoPut m k h) : p = (k, h) \/ p ∈ m := by
  unfold memoPut at hp
  split at hp
  · obtain ⟨q, hq, rfl⟩ := List.mem_map.1 hp
    by_cases e : q.1 = k
    · rw [if_pos e]; exact .inl (by rw [e])
    · rw [if_neg e]; exact .inr hq
  · rcases List.mem_append.1 hp with hp | hp
    · exact .inr hp
    · rw [List.mem_singleton] at hp; exact .inl hp
end
structure Has3 (ns : List Nd) (k : Nd) : Prop where
  a : hasB ns k.v = true
  b : hasB ns k.l = true
  c : hasB ns k.h = true
structure MemoOk (op : Bool) (ns : List Nd) (m : List (Nd × Int)) : Prop where
  keys : ∀ p ∈ m, Has3 ns p.1
  has : ∀ p ∈ m, hasB ns p.2 = true
  top : ∀ p ∈ m, minT ns p.1 <= topOf ns p.2
  sem : ∀ p ∈ m, ∀ f, sem ns p.2 f = opS op (sem ns p.1.v f) (sem ns p.1.l f) (sem ns p.1.h f)
section
variable {ns : List Nd} {op : Bool} {m : List (Nd × Int)} {k : Nd} {vars : Nat}
theorem Has3.ext {ns' : List Nd} (h : Has3 ns k) (he : Ext ns ns') : Has3 ns' k := ⟨he.has _ h.a, he.has _ h.b, he.has _ h.c⟩
theorem minT_ext {ns' : List Nd} (h : Has3 ns k) (he : Ext ns ns') : minT ns' k = minT ns k := by unfold minT; rw [he.top _ h.a, he.top _ h.b, he.top _ h.c]
theorem MemoOk.ext {ns' : List Nd} (hr : Ranked ns) (h : MemoOk op ns m) (he : Ext ns ns') : MemoOk op ns' m :=
  ⟨fun p hp => (h.keys p hp).ext he, fun p hp => he.has _ (h.has p hp), fun p hp => by rw [minT_ext (h.keys p hp) he, he.top _ (h.has p hp)]; exact h.top p hp,
   fun p hp f => by rw [sem_ext hr he (h.has p hp), sem_ext hr he (h.keys p hp).a, sem_ext hr he (h.keys p hp).b, sem_ext hr he (h.keys p hp).c]; exact h.sem p hp f⟩
def rk (vars : Nat) (ns : List Nd) (k : Nd) : Nat := ((vars : Int) - minT ns k).toNat
theorem top_vars (hg : Good vars ns) {h : Int} (ht : topOf ns h ≠ 24) : topOf ns h < (vars : Int) := by
  obtain ⟨h1, h2, h3, -⟩ := node_at ht
  have := top_lt hg.ranked ht
  rw [h3] at this ⊢; exact hg.vars _ h2 this
end
end Go.Proofs.YtbklgjmkdhinpaaGreatDoor.Bd
namespace Go.Proofs.YtbklgjmkdhinpaaGreatDoor.Bd
open Go.RowKit Go.Maps
structure SpaceAt (B : Nat) (w : World) (s b : Nat) (O : Nat -> Prop) (vars : Nat) (room : Int) (ns : List Nd) : Prop where
  arena : ∃ bm v L next, ArenaAt B w b bm v ns L room next /\ Book ns L /\ (∃ i : Nat, next = 2 + (i : Int) /\ i <= ns.length /\ ∀ j, j < i -> (nd ns j).v < 24) /\ (∀ k, Own b bm v k -> O k)
  own : ∀ k, O k -> B <= k /\ k < w.heap.size
  sO : ¬ O s
  slt : s < w.heap.size
  c0 : w.cell? ⟨s, 0, none⟩ = some (.pointer (some ⟨b, 0, none⟩))
  c1 : w.cell? ⟨s, 1, none⟩ = some (.int .i64 (vars : Int))
def CellsAt (w : World) (k : Nat) : Prop := ∃ o : Obj, w.heap[k]? = some o /\ o.isCells = true
theorem CellsAt.lt {w : World} {k : Nat} (h : CellsAt w k) : k < w.heap.size := by
  obtain ⟨o, h1, -⟩ := h
  exact (Array.getElem?_eq_some_iff.1 h1).1
theorem CellsAt.kept {w w' : World} {S : Nat -> Prop} {k : Nat} (h : CellsAt w k) (hk : Kept S w w') (hn : ¬ S k) : CellsAt w' k := by
  obtain ⟨o, h1, h2⟩ := h
  exact ⟨o, (hk.block k (Array.getElem?_eq_some_iff.1 h1).1 hn).trans h1, h2⟩
theorem CellsAt.below {w w' : World} {k : Nat} (h : CellsAt w k) (hb : Below w.heap.size w w') : CellsAt w' k := h.kept (Kept.of_below hb (fun _ => False)) (fun h => h)
theorem cells_at {w : World} {a : Addr} {v : Value} (h : w.cell? a = some v) : CellsAt w a.block := by
  unfold World.cell? at h
  cases e : w.heap[a.block]? with
  | none => rw [e] at h; cases h
  | some o =>
    rw [e] at h
    cases o <;> first | exact ⟨_, e, rfl⟩ | cases h
theorem map_none {w : World} {P : Program} {k : TypeId} {R : Value -> Option (DataW Unit × List MemPlace)} {bm n : Nat} {D : DataW Unit} (h : w.ownsMap P k R bm n D) : ¬ CellsAt w bm := by
  obtain ⟨es, clock, hb, -⟩ := h
  rintro ⟨o, h1, h2⟩
  rw [hb] at h1
  cases h1
  cases h2
theorem rowCells {W : World} {B t k n : Nat} {v : Value} {cs : List Value} (h : W.ownsRow B t k v n cs) : ∀ (j : Nat) (o : Obj), v.ownBlock = some j -> W.heap[j]? = some o -> o.isCells = true := by
  intro j o hj ho
  rcases h.2 with ⟨rfl, _⟩ | ⟨g, cap, cur, rfl, _, hg, _⟩
  · simp [Value.ownBlock] at hj
  · simp only [Value.ownBlock, Option.some.injEq] at hj
    subst hj
    rw [hg] at ho
    cases ho
    rfl
theorem row_cellsAt {W : World} {B t k n : Nat} {v : Value} {cs : List Value} (h : W.ownsRow B t k v n cs) {j : Nat} (hj : v.ownBlock = some j) : CellsAt W j := by
  have hl := (h.lt j hj).2
  obtain ⟨o, ho⟩ : ∃ o, W.heap[j]? = some o := ⟨_, Array.getElem?_eq_getElem hl⟩
  exact ⟨o, ho, rowCells h j o hj ho⟩
structure Moves (O O' : Nat -> Prop) (w w' : World) : Prop where
  kept : Kept O w w'
  own : ∀ k, O' k -> O k \/ w.heap.size <= k
  map : ∀ k, O' k -> CellsAt w' k \/ (O k /\ ¬ CellsAt w k)
section
variable {B s b : Nat} {O O' O'' : Nat -> Prop} {vars : Nat} {room : Int} {ns : List Nd} {w w' w'' : World}
theorem SpaceAt.kept {S : Nat -> Prop} (h : SpaceAt B w s b O vars room ns) (hk : Kept S w w') (hn : ∀ k, O k -> ¬ S k) (hs : ¬ S s) : SpaceAt B w' s b O vars room ns := by
  obtain ⟨bm, v, L, next, hA, hB, hN, hO⟩ := h.arena
  exact ⟨⟨bm, v, L, next, hA.kept hk (fun k hk => hn k (hO k hk)), hB, hN, hO⟩, fun k hk' => ⟨(h.own k hk').1, Nat.lt_of_lt_of_le (h.own k hk').2 hk.size⟩, h.sO, Nat.lt_of_lt_of_le h.slt hk.size,
    (hk.cell (a := ⟨s, 0, none⟩) h.slt hs).trans h.c0, (hk.cell (a := ⟨s, 1, none⟩) h.slt hs).trans h.c1⟩
theorem SpaceAt.new (h : SpaceAt B w s b O vars room ns) (hb : Below w.heap.size w w') : SpaceAt B w' s b O vars room ns := h.kept (Kept.of_below hb (fun _ => False)) (fun _ _ h => h) (fun h => h)
theorem SpaceAt.old (h : SpaceAt B w s b O vars room ns) {j : Nat} (hj : w.heap.size <= j) : ¬ O j := fun ho => by have := (h.own j ho).2; omega
theorem Moves.refl (O : Nat -> Prop) (w : World) : Moves O O w w := ⟨Kept.refl _ _, fun _ h => .inl h, fun k h => (Classical.em (CellsAt w k)).imp id (fun n => ⟨h, n⟩)⟩
theorem Moves.of_below (O : Nat -> Prop) (hb : Below w.heap.size w w') : Moves O O w w' := ⟨Kept.of_below hb _, fun _ h => .inl h, fun k h => (Classical.em (CellsAt w k)).imp (fun c => c.below hb) (fun n => ⟨h, n⟩)⟩
theorem Moves.trans (h : Moves O O' w w') (k : Moves O' O'' w' w'') : Moves O O'' w w'' :=
  ⟨h.kept.andThen k.kept (fun i hi hlt => (h.own i hi).elim id (fun h => by omega)), fun i hi => by
    rcases k.own i hi with h1 | h1
    · exact h.own i h1
    · exact .inr (Nat.le_trans h.kept.size h1), fun i hi => by
    rcases k.map i hi with h1 | ⟨h1, h2⟩
    · exact .inl h1
    · rcases h.map i h1 with h3 | h3
      · exact absurd h3 h2
      · exact .inr h3⟩
theorem Moves.size (h : Moves O O' w w') : w.heap.size <= w'.heap.size := h.kept.size
theorem Moves.cell (h : Moves O O' w w') {a : Addr} (hlt : a.block < w.heap.size) (hn : ¬ O a.block) : w'.cell? a = w.cell? a := h.kept.cell hlt hn
theorem Moves.beside (h : Moves O O' w w') {j : Nat} (hlt : j < w.heap.size) (hn : ¬ O j) : ¬ O' j := fun ho => by
  rcases h.own j ho with h1 | h1
  · exact hn h1
  · omega
theorem Moves.below {B : Nat} (h : Moves O O' w w') (hB : B <= w.heap.size) (ho : ∀ k, O k -> B <= k) : Below B w w' := h.kept.below hB ho
theorem SpaceAt.moved {bm : Nat} {v v' : Value} {ns' : List Nd} {L' : List (Nd × Int)} {next' : Int} (h : SpaceAt B w s b O vars room ns) (hbm0 : ¬ CellsAt w bm) (hO : ∀ k, Own b bm v k -> O k) (hA : ArenaAt B w' b bm v' ns' L' room next') (hB : Book ns' L') (hN : ∃ i : Nat, next' = 2 + (i : Int) /\ i <= ns'.length /\ ∀ j, j < i -> (nd ns' j).v < 24)
    (hk : Kept (Own b bm v) w w') (hv : v'.ownBlock = v.ownBlock \/ ∃ g, v'.ownBlock = some g /\ w.heap.size <= g) : ∃ O', SpaceAt B w' s b O' vars room ns' /\ Moves O O' w w' := by
  have hs : ¬ Own b bm v s := fun ho => h.sO (hO s ho)
  obtain ⟨D, hD, -⟩ := hA.hmap
  have hbm := hD.lt
  refine ⟨Own b bm v', ⟨⟨bm, v', L', next', hA, hB, hN, fun _ h => h⟩, ?_, ?_, Nat.lt_of_lt_of_le h.slt hk.size, (hk.cell (a := ⟨s, 0, none⟩) h.slt hs).trans h.c0, (hk.cell (a := ⟨s, 1, none⟩) h.slt hs).trans h.c1⟩, hk.mono hO, ?_, ?_⟩
  · rintro k (e | e | e)
    · have := h.own k (hO k (.inl e)); exact ⟨this.1, Nat.lt_of_lt_of_le this.2 hk.size⟩
    · have := h.own k (hO k (.inr (.inl e))); exact ⟨this.1, Nat.lt_of_lt_of_le this.2 hk.size⟩
    · exact hA.row.lt k e
  · rintro (e | e | e)
    · exact h.sO (hO s (.inl e))
    · exact h.sO (hO s (.inr (.inl e)))
    · rcases hv with h1 | ⟨g, h1, h2⟩
      · exact h.sO (hO s (.inr (.inr (by rw [<- h1]; exact e))))
      · rw [h1] at e; cases e; have := h.slt; omega
  · rintro k (e | e | e)
    · exact .inl (hO k (.inl e))
    · exact .inl (hO k (.inr (.inl e)))
    · rcases hv with h1 | ⟨g, h1, h2⟩
      · exact .inl (hO k (.inr (.inr (by rw [<- h1]; exact e))))
      · rw [h1] at e; cases e; exact .inr h2
  · rintro k (e | e | e)
    · rw [e]; exact .inl (cells_at hA.croom)
    · rw [e]; exact .inr ⟨hO bm (.inr (.inl rfl)), hbm0⟩
    · exact .inl (row_cellsAt hA.row e)
theorem taken_cnt : ∀ ns : List Nd, (taken ns).length = cnt ns := by
  intro ns
  unfold taken cnt
  have key : (ns.map fun n => decide (n.v < 24)) = (List.range ns.length).map fun i => decide ((nd ns i).v < 24) := by
    apply List.ext_getElem (by simp)
    intro i h1 h2
    simp at h1 h2
    simp [nd_at ns i h1]
  rw [<- List.countP_eq_length_filter, <- List.countP_eq_length_filter]
  have e1 : List.countP (fun n : Nd => decide (n.v < 24)) ns = List.countP (fun b : Bool => b) (ns.map fun n => decide (n.v < 24)) := by rw [List.countP_map]; rfl
  have e2 : List.countP (fun i => decide ((nd ns i).v < 24)) (List.range ns.length) = List.countP (fun b : Bool => b) ((List.range ns.length).map fun i => decide ((nd ns i).v < 24)) := by rw [List.countP_map]; rfl
  rw [e1, e2, key]
theorem make_any (hS : SpaceAt B w s b O vars room ns) (hl : ns.length <= 90000) (hroom : (cnt ns : Int) < room) (hB : B <= w.heap.size) (n : Nd) (hn : n.Ok) (hf : Fit ns n) :
    Calls Tryz.prog 111 #[.pointer (some ⟨b, 0, none⟩), n.val] w fun e w' => e = .returned (.tuple #[.int .i64 (makeF ns n).2, .nilIface]) /\ ∃ O', SpaceAt B w' s b O' vars room (makeF ns n).1 /\ Moves O O' w w' := by
  obtain ⟨bm, v, L, next, hA, hBk, ⟨i, hi1, hi2, hi3⟩, hO⟩ := hS.arena
  have hLl : L.length <= ns.length := by rw [book_len hBk]; exact taken_le ns
  have hLc : L.length <= cnt ns := by rw [book_len hBk]; exact Nat.le_of_eq (taken_cnt ns)
  unfold makeF
  by_cases c : idx ns n < ns.length
  · rw [if_pos c]
    have hin : (n, 2 + (idx ns n : Int)) ∈ L := by
      have := hBk.all _ c (by rw [idx_at c]; exact hf.v1)
      rwa [idx_at c] at this
    exact (make_found hA (by omega) n hn hf _ hin).mono fun e w' ⟨he, hb⟩ => ⟨he, O, hS.new hb, Moves.of_below O hb⟩
  · rw [if_neg c]
    have hnin : n ∉ L.map Prod.fst := fun h => by
      obtain ⟨p, hp, rfl⟩ := List.mem_map.1 h
      obtain ⟨j, hj, -, rfl⟩ := hBk.mem p hp
      exact idx_none c hj rfl
    refine (make_new hA (by omega) n hn hf hnin (by omega) (by omega) i hi1 hi2 hB).mono ?_
    rintro e w' ⟨k, v', rfl, hk, hocc, hfree, hA', hK, hv⟩
    have hocc' : ∀ j, j < k -> (nd ns j).v < 24 := fun j hj => by
      by_cases h : j < i
      · exact hi3 j h
      · exact hocc j (by omega) hj
    obtain rfl : k = lfree ns := lfree_is hk hocc' hfree
    refine ⟨rfl, hS.moved (by obtain ⟨D0, hD0, -⟩ := hA.hmap; exact map_none hD0) hO hA' (putN_book hBk hk hfree hf.v1 hnin) ⟨lfree ns, rfl, ?_, fun j hj => ?_⟩ hK hv⟩
    · have := (putN_length (n := n) hk).2
      exact Nat.le_trans hk this
    · show (nd (putN ns (lfree ns) n) j).v < 24
      rw [putN_at hk j (by omega), if_neg (by omega)]; exact hocc' j hj
theorem spHas (hS : SpaceAt B w s b O vars room ns) (h : Int) (hi : I64 h) (hl : ns.length <= 90000) :
    Calls Tryz.prog 59 #[.pointer (some ⟨b, 0, none⟩), .int .i64 h] w fun e w' => e = .returned (.bool (hasB ns h)) /\ w = w' := by
  obtain ⟨bm, v, L, next, hA, -⟩ := hS.arena
  exact has_any hA h hi (by omega)
theorem spGet (hS : SpaceAt B w s b O vars room ns) (h : Int) (hi : I64 h) (hl : ns.length <= 90000) :
    Calls Tryz.prog 39 #[.pointer (some ⟨b, 0, none⟩), .int .i64 h] w fun e w' => e = .returned (.tuple #[(getOf ns h).val, .bool (decide (topOf ns h ≠ 24))]) /\ Below w.heap.size w w' := by
  obtain ⟨bm, v, L, next, hA, -⟩ := hS.arena
  exact get_any hA h hi (by omega)
theorem spSweep (hS : SpaceAt B w s b O vars room ns) (hr : Ranked ns) (hl : ns.length <= 90000) (hB : B <= w.heap.size) (bf : Nat) {cp : Nat} (fs : List Int) (hF : IntsAt w bf fs) (hfl : fs.length <= 1000) :
    Calls Tryz.prog 86 #[.pointer (some ⟨b, 0, none⟩), .slice (some ⟨bf, 0, none⟩) fs.length cp] w fun e w' => ∃ n : Int, e = .returned (.int .i64 n) /\ ∃ O', SpaceAt B w' s b O' vars room (swept ns (marksOf ns fs)) /\ Moves O O' w w' := by
  obtain ⟨bm, v, L, next, hA, hBk, -, hO⟩ := hS.arena
  have hLl : L.length <= ns.length := by rw [book_len hBk]; exact taken_le ns
  refine (sweep_any hr hBk (by omega) hA bf fs hF hfl hB (by omega)).mono ?_
  rintro e w' ⟨rfl, hA', hK⟩
  exact ⟨_, rfl, hS.moved (by obtain ⟨D0, hD0, -⟩ := hA.hmap; exact map_none hD0) hO hA' (swept_book hBk) ⟨0, rfl, Nat.zero_le _, fun j h => by omega⟩ hK (.inl rfl)⟩
end
end Go.Proofs.YtbklgjmkdhinpaaGreatDoor.Bd
namespace Go.Proofs.YtbklgjmkdhinpaaGreatDoor.Fm
open Go.RowKit Go.Maps Go.Proofs.YtbklgjmkdhinpaaGreatDoor.Bd
def inF : Nat -> List Nd -> Int -> Nat -> Bool
  | 0, _, h, x => decide (h = 1 /\ x = 0)
  | d + 1, ns, h, x =>
    if topOf ns h = 24 then decide (h = 1 /\ x = 0)
    else if x.testBit (topOf ns h).toNat = true then inF d ns (nd ns (pl h)).h (x ^^^ 2 ^ (topOf ns h).toNat) else inF d ns (nd ns (pl h)).l x
def inB (ns : List Nd) (h : Int) (x : Nat) : Bool := inF 24 ns h x
def In (ns : List Nd) (h : Int) (x : Nat) : Prop := inB ns h x = true
structure Good (vars : Nat) (ns : List Nd) : Prop where
  ranked : Ranked ns
  once : ∀ i j, i < ns.length -> j < ns.length -> (nd ns i).v < 24 -> nd ns i = nd ns j -> i = j
  red : ∀ i, i < ns.length -> (nd ns i).v < 24 -> (nd ns i).h ≠ 0
  vars : ∀ i, i < ns.length -> (nd ns i).v < 24 -> (nd ns i).v < (vars : Int)
  free : ∀ i, i < ns.length -> ¬ (nd ns i).v < 24 -> nd ns i = ⟨24, 0, 0⟩
section
variable {ns : List Nd}
theorem inF_any (hr : Ranked ns) : ∀ (d e : Nat) (h : Int) (x : Nat), 24 <= topOf ns h + d -> 24 <= topOf ns h + e -> inF d ns h x = inF e ns h x
  | 0, 0, h, _, _, _ => rfl
  | 0, e + 1, h, x, hd, _ => by
    have := (topOf_le hr h).2
    unfold inF; rw [if_pos (by omega)]
  | d + 1, 0, h, x, _, he => by
    have := (topOf_le hr h).2
    unfold inF; rw [if_pos (by omega)]
  | d + 1, e + 1, h, x, hd, he => by
    unfold inF
    by_cases ht : topOf ns h = 24
    · rw [if_pos ht, if_pos ht]
    · rw [if_neg ht, if_neg ht]
      obtain ⟨k1, -, k2, -⟩ := kids hr ht
      rw [inF_any hr d e _ _ (by omega) (by omega), inF_any hr d e (nd ns (pl h)).l _ (by omega) (by omega)]
theorem inB_end {h : Int} (ht : topOf ns h = 24) (x : Nat) : inB ns h x = decide (h = 1 /\ x = 0) := by
  unfold inB inF; rw [if_pos ht]
theorem in_zero (x : Nat) : ¬ In ns 0 x := by unfold In; rw [inB_end (by simp [topOf])]; simp
theorem in_one (x : Nat) : In ns 1 x ↔ x = 0 := by unfold In; rw [inB_end (by simp [topOf])]; simp
theorem inB_node (hr : Ranked ns) {h : Int} (ht : topOf ns h ≠ 24) (x : Nat) : inB ns h x = if x.testBit (topOf ns h).toNat = true then inB ns (nd ns (pl h)).h (x ^^^ 2 ^ (topOf ns h).toNat) else inB ns (nd ns (pl h)).l x := by
  obtain ⟨k1, -, k2, -⟩ := kids hr ht
  have h0 := (topOf_le hr h).1
  show inF 24 ns h x = _
  unfold inF
  rw [if_neg ht, inF_any hr 23 24 _ _ (by omega) (by omega), inF_any hr 23 24 (nd ns (pl h)).l _ (by omega) (by omega)]
  rfl
theorem end_has0 (ns : List Nd) : hasB ns 0 = true := by simp [hasB]
theorem end_has1 (ns : List Nd) : hasB ns 1 = true := by simp [hasB]
theorem end_top0 (ns : List Nd) : topOf ns 0 = 24 := by simp [topOf]
theorem end_top1 (ns : List Nd) : topOf ns 1 = 24 := by simp [topOf]
theorem xor_bit (x v : Nat) : (x ^^^ 2 ^ v).testBit v = !x.testBit v := by rw [Nat.testBit_xor, Nat.testBit_two_pow]; simp
theorem xor_bit_ne (x : Nat) {v i : Nat} (h : i ≠ v) : (x ^^^ 2 ^ v).testBit i = x.testBit i := by rw [Nat.testBit_xor, Nat.testBit_two_pow]; simp [Ne.symm h]
theorem xor_back (x v : Nat) : x ^^^ 2 ^ v ^^^ 2 ^ v = x := by rw [Nat.xor_assoc, Nat.xor_self, Nat.xor_zero]
theorem inF_low (hr : Ranked ns) : ∀ (d : Nat) (h : Int) (x i : Nat), (i : Int) < topOf ns h -> x.testBit i = true -> inF d ns h x = false
  | 0, h, x, i, _, hx => by
    unfold inF
    have : x ≠ 0 := fun e => by subst e; simp at hx
    simp [this]
  | d + 1, h, x, i, hi, hx => by
    unfold inF
    have hne : x ≠ 0 := fun e => by subst e; simp at hx
    by_cases ht : topOf ns h = 24
    · rw [if_pos ht]; simp [hne]
    · rw [if_neg ht]
      obtain ⟨k1, -, k2, -⟩ := kids hr ht
      split
      · exact inF_low hr d _ _ i (by omega) (by rw [xor_bit_ne _ (by omega)]; exact hx)
      · exact inF_low hr d _ _ i (by omega) hx
theorem in_low (hr : Ranked ns) {h : Int} {x i : Nat} (hi : (i : Int) < topOf ns h) (hx : In ns h x) : x.testBit i = false := by
  cases e : x.testBit i with
  | false => rfl
  | true =>
    have := inF_low hr 24 h x i hi e
    unfold In inB at hx; rw [this] at hx; cases hx
theorem inF_ext {ns' : List Nd} (hr : Ranked ns) (he : Ext ns ns') : ∀ (d : Nat) (h : Int) (x : Nat), hasB ns h = true -> inF d ns' h x = inF d ns h x
  | 0, _, _, _ => rfl
  | d + 1, h, x, hh => by
    unfold inF
    rw [he.top h hh]
    by_cases ht : topOf ns h = 24
    · rw [if_pos ht, if_pos ht]
    · obtain ⟨-, k1, -, k2⟩ := kids hr ht
      rw [if_neg ht, if_neg ht, he.node h hh ht, inF_ext hr he d _ _ k1, inF_ext hr he d _ _ k2]
theorem in_ext {ns' : List Nd} (hr : Ranked ns) (he : Ext ns ns') {h : Int} (hh : hasB ns h = true) (x : Nat) : In ns' h x ↔ In ns h x := by
  unfold In inB; rw [inF_ext hr he 24 h x hh]
theorem inF_lt {vars : Nat} (hg : Good vars ns) : ∀ (d : Nat) (h : Int) (x : Nat), inF d ns h x = true -> ∀ i, x.testBit i = true -> i < vars
  | 0, h, x, hx, i, hi => by
    unfold inF at hx
    simp at hx
    rw [hx.2] at hi; simp at hi
  | d + 1, h, x, hx, i, hi => by
    unfold inF at hx
    by_cases ht : topOf ns h = 24
    · rw [if_pos ht] at hx; simp at hx; rw [hx.2] at hi; simp at hi
    · rw [if_neg ht] at hx
      have hv := Go.Proofs.YtbklgjmkdhinpaaGreatDoor.Bd.top_lt hg.ranked ht
      obtain ⟨n1, n2, n3, n4⟩ := node_at ht
      have h0 := (topOf_le hg.ranked h).1
      have := hg.vars _ n2 (by omega)
      split at hx
      · by_cases e : i = (topOf ns h).toNat
        · omega
        · exact inF_lt hg d _ _ hx i (by rw [xor_bit_ne _ e]; exact hi)
      · exact inF_lt hg d _ _ hx i hi
theorem in_lt {vars : Nat} (hg : Good vars ns) {h : Int} {x : Nat} (hx : In ns h x) {i : Nat} (hi : x.testBit i = true) : i < vars := inF_lt hg 24 h x hx i hi
end
end Go.Proofs.YtbklgjmkdhinpaaGreatDoor.Fm
