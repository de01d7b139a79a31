/- One call that makes families, as it lies in memory: the store, the work, what was worked out, and the boxes of its closures. -/
import Derived.Test.YtbklgjmkdhinpaaFmMap
namespace Go.Proofs.Ytbklgjmkdhinpaa.Fm
open Go.RowKit Go.Maps Go.Proofs.Ytbklgjmkdhinpaa.Bd
def MemoAt (w : World) (dm : Nat) (k : K) (ns : List Nd) : Prop :=
  ∃ m D, w.ownsMap Try.prog 115 (plainElem Try.prog 3) dm m.length D /\ Rep PrOk prLit (fun x : Int => .lit (.int .i64 x)) D m /\ MemoOk k ns m
structure Ctx where
  s : Nat
  b : Nat
  wk : Nat
  room : Nat
  memos : List (Nat × K)
  boxes : List (Nat × Value)
def Ms (c : Ctx) (j : Nat) : Prop := ∃ q ∈ c.memos, q.1 = j
structure CtxAt (B : Nat) (w : World) (c : Ctx) (O : Nat -> Prop) (vars : Nat) (ns : List Nd) : Prop where
  space : SpaceAt B w c.s c.b O vars (c.room : Int) ns
  good : Good vars ns
  v24 : vars <= 24
  rm : c.room <= 4000
  len : ns.length <= 4000
  hB : B <= w.heap.size
  wb : w.heap[c.wk]? = some (.cells #[.pointer (some ⟨c.s, 0, none⟩), .nilIface] 90)
  wO : ¬ O c.wk
  wB : B <= c.wk
  memo : ∀ p ∈ c.memos, MemoAt w p.1 p.2 ns /\ ¬ O p.1 /\ p.1 ≠ c.s /\ p.1 ≠ c.wk /\ B <= p.1
  nodup : (c.memos.map Prod.fst).Nodup
  box : ∀ p ∈ c.boxes, p.1 < w.heap.size /\ w.cell? ⟨p.1, 0, none⟩ = some p.2 /\ ¬ O p.1 /\ ∀ q ∈ c.memos, q.1 ≠ p.1
structure MM (c : Ctx) (O O' : Nat -> Prop) (w w' : World) : Prop where
  kept : Kept (fun j => O j \/ Ms c j) w w'
  own : ∀ k, O' k -> O k \/ w.heap.size <= k
section
variable {B : Nat} {c : Ctx} {O O' O'' : Nat -> Prop} {vars : Nat} {ns ns' : List Nd} {w w' w'' : World} {k : K} {dm : Nat}
theorem MemoAt.lt (h : MemoAt w dm k ns) : dm < w.heap.size := by obtain ⟨m, D, hD, -⟩ := h; exact hD.lt
theorem MemoAt.kept {S : Nat -> Prop} (h : MemoAt w dm k ns) (hk : Kept S w w') (hn : ¬ S dm) : MemoAt w' dm k ns := by
  obtain ⟨m, D, hD, hR, hm⟩ := h
  exact ⟨m, D, ownsMap_kept hD hk hn, hR, hm⟩
theorem MemoAt.ext (h : MemoAt w dm k ns) (hr : Ranked ns) (he : Ext ns ns') : MemoAt w dm k ns' := by
  obtain ⟨m, D, hD, hR, hm⟩ := h
  exact ⟨m, D, hD, hR, hm.ext hr he⟩
theorem CtxAt.wlt (h : CtxAt B w c O vars ns) : c.wk < w.heap.size := (Array.getElem?_eq_some_iff.1 h.wb).1
theorem CtxAt.w0 (h : CtxAt B w c O vars ns) : w.cell? ⟨c.wk, 0, none⟩ = some (.pointer (some ⟨c.s, 0, none⟩)) := by simp [World.cell?, h.wb]
theorem CtxAt.w1 (h : CtxAt B w c O vars ns) : w.cell? ⟨c.wk, 1, none⟩ = some .nilIface := by simp [World.cell?, h.wb]
theorem CtxAt.kept {S : Nat -> Prop} (h : CtxAt B w c O vars ns) (hk : Kept S w w') (hO : ∀ k, O k -> ¬ S k) (hs : ¬ S c.s) (hw : ¬ S c.wk) (hm : ∀ p ∈ c.memos, ¬ S p.1) (hb : ∀ p ∈ c.boxes, ¬ S p.1) : CtxAt B w' c O vars ns :=
  ⟨h.space.kept hk hO hs, h.good, h.v24, h.rm, h.len, Nat.le_trans h.hB hk.size, (hk.block _ h.wlt hw).trans h.wb, h.wO, h.wB, fun p hp => ⟨(h.memo p hp).1.kept hk (hm p hp), (h.memo p hp).2⟩, h.nodup,
   fun p hp => ⟨Nat.lt_of_lt_of_le (h.box p hp).1 hk.size, (hk.cell (a := ⟨p.1, 0, none⟩) (h.box p hp).1 (hb p hp)).trans (h.box p hp).2.1, (h.box p hp).2.2⟩⟩
theorem CtxAt.new (h : CtxAt B w c O vars ns) (hb : Below w.heap.size w w') : CtxAt B w' c O vars ns :=
  h.kept (Kept.of_below hb (fun _ => False)) (fun _ _ h => h) (fun h => h) (fun h => h) (fun _ _ h => h) (fun _ _ h => h)
theorem MM.refl (c : Ctx) (O : Nat -> Prop) (w : World) : MM c O O w w := ⟨Kept.refl _ _, fun _ h => .inl h⟩
theorem MM.of_below (hb : Below w.heap.size w w') : MM c O O w w' := ⟨Kept.of_below hb _, fun _ h => .inl h⟩
theorem MM.of_moves (h : Moves O O' w w') : MM c O O' w w' := ⟨h.kept.mono (fun _ h => .inl h), h.own⟩
theorem MM.trans (h : MM c O O' w w') (k : MM c O' O'' w' w'') : MM c O O'' w w'' :=
  ⟨h.kept.andThen k.kept (fun i hi hlt => by
      rcases hi with hi | hi
      · rcases h.own i hi with h1 | h1
        · exact .inl h1
        · omega
      · exact .inr hi), fun i hi => by
    rcases k.own i hi with h1 | h1
    · exact h.own i h1
    · exact .inr (Nat.le_trans h.kept.size h1)⟩
theorem MM.size (h : MM c O O' w w') : w.heap.size <= w'.heap.size := h.kept.size
theorem MM.beside (h : MM c O O' w w') {j : Nat} (hlt : j < w.heap.size) (hn : ¬ O j) : ¬ O' j := fun ho => by
  rcases h.own j ho with h1 | h1
  · exact hn h1
  · omega
theorem MM.cell (h : MM c O O' w w') {a : Addr} (hlt : a.block < w.heap.size) (hn : ¬ O a.block) (hd : ¬ Ms c a.block) : w'.cell? a = w.cell? a := h.kept.cell hlt (fun ho => ho.elim hn hd)
theorem CtxAt.moved (h : CtxAt B w c O vars ns) (hS : SpaceAt B w' c.s c.b O' vars (c.room : Int) ns') (hm : Moves O O' w w') (hg : Good vars ns') (hx : Ext ns ns') (hl : ns'.length <= 4000) : CtxAt B w' c O' vars ns' :=
  ⟨hS, hg, h.v24, h.rm, hl, Nat.le_trans h.hB hm.size, (hm.kept.block _ h.wlt h.wO).trans h.wb, hm.beside h.wlt h.wO, h.wB,
   fun p hp => ⟨((h.memo p hp).1.kept hm.kept (h.memo p hp).2.1).ext h.good.ranked hx, hm.beside (h.memo p hp).1.lt (h.memo p hp).2.1, (h.memo p hp).2.2⟩, h.nodup,
   fun p hp => ⟨Nat.lt_of_lt_of_le (h.box p hp).1 hm.size, (hm.kept.cell (a := ⟨p.1, 0, none⟩) (h.box p hp).1 (h.box p hp).2.2.1).trans (h.box p hp).2.1, hm.beside (h.box p hp).1 (h.box p hp).2.2.1, (h.box p hp).2.2.2⟩⟩
theorem fst_eq {l : List (Nat × K)} {q : Nat × K} {dm : Nat} {k : K} (hn : (l.map Prod.fst).Nodup) (hq : q ∈ l) (hp : (dm, k) ∈ l) (e : q.1 = dm) : q = (dm, k) := by
  induction l with
  | nil => cases hq
  | cons x l ih =>
    rw [List.map_cons, List.nodup_cons] at hn
    rcases List.mem_cons.1 hq with rfl | hq' <;> rcases List.mem_cons.1 hp with hp' | hp'
    · exact hp'.symm
    · exact absurd (List.mem_map.2 ⟨_, hp', e.symm⟩) hn.1
    · subst hp'; exact absurd (List.mem_map.2 ⟨_, hq', e⟩) hn.1
    · exact ih hn.2 hq' hp'
theorem CtxAt.noted (h : CtxAt B w c O vars ns) (hp : (dm, k) ∈ c.memos) (hk : Kept (fun j => j = dm) w w') (hm : MemoAt w' dm k ns) : CtxAt B w' c O vars ns := by
  obtain ⟨-, m1, m2, m3, m4⟩ := h.memo _ hp
  refine ⟨h.space.kept hk (fun j hj e => m1 (e ▸ hj)) (fun e => m2 e.symm), h.good, h.v24, h.rm, h.len, Nat.le_trans h.hB hk.size, (hk.block _ h.wlt (fun e => m3 e.symm)).trans h.wb, h.wO, h.wB, fun q hq => ?_, h.nodup,
    fun q hq => ⟨Nat.lt_of_lt_of_le (h.box q hq).1 hk.size, (hk.cell (a := ⟨q.1, 0, none⟩) (h.box q hq).1 (fun e => (h.box q hq).2.2.2 _ hp e.symm)).trans (h.box q hq).2.1, (h.box q hq).2.2⟩⟩
  refine ⟨?_, (h.memo q hq).2⟩
  by_cases e : q.1 = dm
  · have : q = (dm, k) := fst_eq h.nodup hq hp e
    rw [this]; exact hm
  · exact (h.memo q hq).1.kept hk e
theorem memo_len {m : List ((Int × Int) × Int)} {D : DataW Unit} (hR : Rep PrOk prLit (fun x : Int => .lit (.int .i64 x)) D m) (hm : MemoOk k ns m) (hl : ns.length <= 4000) : m.length < 1000000000 := by
  have hh : ∀ {h : Int}, hasB ns h = true -> h ∈ (List.range 4002).map (fun i : Nat => (i : Int)) := fun {h} hh => by
    rw [List.mem_map]
    rcases hasB_cases hh with rfl | rfl | ht
    · exact ⟨0, by simp, rfl⟩
    · exact ⟨1, by simp, rfl⟩
    · obtain ⟨h1, h2, -, h4⟩ := node_at (ns := ns) (h := h) (by omega)
      exact ⟨h.toNat, by rw [List.mem_range]; omega, by omega⟩
  have := inj_len (m.map Prod.fst) (((List.range 4002).map (fun i : Nat => (i : Int))).flatMap fun a => ((List.range 4002).map (fun i : Nat => (i : Int))).map fun b => (a, b)) id hR.nodup (fun p hp => by
    obtain ⟨q, hq, rfl⟩ := List.mem_map.1 hp
    rw [List.mem_flatMap]
    exact ⟨_, hh (hm.a q hq), List.mem_map.2 ⟨_, hh (hm.b q hq), rfl⟩⟩) (fun _ _ _ _ e => e)
  rw [pairs_len, List.length_map, List.length_map, List.length_range] at this
  omega
end
theorem wk_set {W : World} {b : Nat} {t : TypeId} {p q : Value} (h : W.heap[b]? = some (.cells #[p, q] t)) : W.setCell ⟨b, 1, none⟩ q = W := by
  have hlt := (Array.getElem?_eq_some_iff.1 h).1
  have e : (W.setCell ⟨b, 1, none⟩ q).heap = W.heap := by
    apply Array.ext_getElem?
    intro k
    by_cases hk : k = b
    · subst hk
      simp [World.setCell, Array.getElem?_modify, h]
    · exact Below.heap_setCell W ⟨b, 1, none⟩ q k hk
  cases W
  simp only [World.setCell] at e ⊢
  simp only [World.mk.injEq, and_true]
  exact e
def OpOut (B : Nat) (c : Ctx) (O : Nat -> Prop) (vars : Nat) (k : K) (ns : List Nd) (a b : Int) (w : World) (e : Ending) (w' : World) : Prop :=
  ∃ h ns' O', e = .returned (.int .i64 h) /\ CtxAt B w' c O' vars ns' /\ MM c O O' w w' /\ Res vars k ns a b ns' h
end Go.Proofs.Ytbklgjmkdhinpaa.Fm
