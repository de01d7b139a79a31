/- One call that makes families, as it lies in memory: the store, the work, what was worked out, and the boxes of its closures. -/
import Derived.Test.YtbklgjmkdhinpaaFmOps
import Derived.Test.YtbklgjmkdhinpaaFmSem
set_option maxRecDepth 100000
namespace Go.Proofs.Ytbklgjmkdhinpaa.Fm
open Go.RowKit Go.Maps Go.Proofs.Ytbklgjmkdhinpaa.Bd
theorem rowPair : (115 : TypeId) < Try.prog.types.size := of_decide_eq_true (by kernel_rfl)
theorem widePair : (match Try.prog.underlying 115 with | some (.array _ _) | some (.struct _) => true | _ => false) = true := by rw [Try.underlying115]
theorem lawPair : Keyed Try.prog 115 := Keyed.of_law (deep_law_laid laidOut (m := 2) (by omega) rowPair (by kernel_rfl) widePair)
theorem keyTypePair : Try.prog.keyType 115 = true := by kernel_rfl
theorem cellsPair : Try.prog.cellsOf 115 = 2 := by kernel_rfl
def prV (p : Int × Int) : Value := .agg #[.int .i64 p.1, .int .i64 p.2]
def PrOk (p : Int × Int) : Prop := I64 p.1 /\ I64 p.2
def prLit (p : Int × Int) : Lit := .string (keyBytes [.int .i64 p.1, .int .i64 p.2])
theorem keyPair (p : Int × Int) (h : PrOk p) : keyOf Try.prog 115 (prV p) = some (prLit p) := by
  have hf : (prV p).formed Try.prog 115 = true := by simp [Value.formed, Try.underlying115, cellsPair, prV]
  unfold keyOf
  rw [Try.underlying115]
  simp only [keyTypePair, hf, Bool.and_self, if_true]
  obtain ⟨d, hd⟩ : ∃ d, Try.prog.types.size + 1 = d + 2 := ⟨Try.prog.types.size - 1, by have : 0 < Try.prog.types.size := Nat.lt_of_le_of_lt (Nat.zero_le _) rowPair; omega⟩
  rw [hd]
  unfold Program.keyLits
  rw [Try.underlying115]
  have hc : (prV p).cells.toList = [.int .i64 p.1, .int .i64 p.2] := rfl
  rw [hc]
  simp [cellsPair, cellsInt, List.range, List.range.loop, litsInt d h.1, litsInt d h.2, prLit]
theorem prLit_key (p : Int × Int) : WideAt.IsKeyLit (prLit p) := trivial
theorem prLit_inj {p q : Int × Int} (hp : PrOk p) (hq : PrOk q) (h : prLit p = prLit q) : p = q := by
  have := lawPair.inj (keyPair p hp) (h ▸ keyPair q hq)
  cases p; cases q
  simpa [prV] using this
end Go.Proofs.Ytbklgjmkdhinpaa.Fm
namespace Go.Proofs.Ytbklgjmkdhinpaa.Bd
open Go.RowKit Go.Maps
theorem Rep.put_over {α β : Type} [DecidableEq α] {ok : α -> Prop} {kl : α -> Lit} {el : β -> DataW Unit} {D : DataW Unit} {L : List (α × β)} (h : Rep ok kl el D L) (inj : ∀ a b, ok a -> ok b -> kl a = kl b -> a = b) (key : ∀ a, WideAt.IsKeyLit (kl a)) {a : α} (b : β) (hm : a ∈ L.map Prod.fst) :
    Rep ok kl el (D.put (kl a) (el b)) (L.map fun q => if q.1 = a then (q.1, b) else q) := by
  have hk : (L.map fun q => if q.1 = a then (q.1, b) else q).map Prod.fst = L.map Prod.fst := by
    rw [List.map_map]; apply List.map_congr_left; intro q _; simp only [Function.comp]; split <;> rfl
  obtain ⟨p0, hp0, rfl⟩ := List.mem_map.1 hm
  have ha := h.oks p0 hp0
  have hne : ∀ c, ok c -> c ≠ p0.1 -> kl c ≠ kl p0.1 := fun c hc hca e => hca (inj c p0.1 hc ha e)
  refine ⟨h.tidy.put (key _) _, ?_, ?_, ?_, ?_, ?_, by rw [hk]; exact h.nodup⟩
  · rw [size_put h.tidy, (h.has p0.1 ha).2 hm]; simp [h.size]
  · intro q hq
    obtain ⟨r, hr, rfl⟩ := List.mem_map.1 hq
    have := h.oks r hr
    split <;> exact this
  · intro c hc
    rw [hk]
    by_cases e : c = p0.1
    · rw [e, has_put_same h.tidy.isMap (key _)]; simp only [true_iff]; exact hm
    · rw [has_put_other (hne c hc e)]; exact h.has c hc
  · intro x hx
    have hex : ∃ r ∈ L, x = kl r.1 := by
      by_cases e : x = kl p0.1
      · exact ⟨p0, hp0, e⟩
      · rw [has_put_other e] at hx; exact h.all x hx
    obtain ⟨r, hr, e⟩ := hex
    exact ⟨_, List.mem_map_of_mem hr, by rw [e]; split <;> rfl⟩
  · intro q hq z
    obtain ⟨r, hr, rfl⟩ := List.mem_map.1 hq
    by_cases e : r.1 = p0.1
    · rw [if_pos e]; show (D.put (kl p0.1) (el b)).atKey (kl r.1) z = el b
      rw [e]; exact atKey_put_same h.tidy.isMap (key _) _ _
    · rw [if_neg e, atKey_put_other (hne r.1 (h.oks r hr) e)]; exact h.at' r hr z
end Go.Proofs.Ytbklgjmkdhinpaa.Bd
namespace Go.Proofs.Ytbklgjmkdhinpaa.Fm
open Go.RowKit Go.Maps Go.Proofs.Ytbklgjmkdhinpaa.Bd
section
variable {w : World} {bm n : Nat} {D : DataW Unit} {L : List ((Int × Int) × Int)}
theorem plook_found (hD : w.ownsMap Try.prog 115 (plainElem Try.prog 3) bm n D) (hR : Rep PrOk prLit (fun x : Int => .lit (.int .i64 x)) D L) {p : (Int × Int) × Int} (hp : p ∈ L) :
    (Instr.lookup 114 (.map (some bm)) (.agg #[.int .i64 p.1.1, .int .i64 p.1.2]) true).run Try.prog w = .ok (.tuple #[.int .i64 p.2, .bool true]) w := by
  obtain ⟨v, ps, hrun, hv⟩ := hD.look_ok lawPair Try.underlying114 (zeroInt w) (zd := .lit (.int .i64 0)) (zp := []) (elInt ⟨by omega, by omega⟩) (keyPair p.1 (hR.oks p hp))
  rw [hR.at' p hp] at hv
  obtain ⟨a, rfl, hz, -⟩ := plainElem_int_inv Try.underlying3 hv
  rw [(hR.has p.1 (hR.oks p hp)).2 (List.mem_map_of_mem hp)] at hrun
  simp at hz
  rw [<- hz.1] at hrun
  exact hrun
theorem plook_none (hD : w.ownsMap Try.prog 115 (plainElem Try.prog 3) bm n D) (hR : Rep PrOk prLit (fun x : Int => .lit (.int .i64 x)) D L) {a b : Int} (ha : PrOk (a, b)) (hn : (a, b) ∉ L.map Prod.fst) :
    (Instr.lookup 114 (.map (some bm)) (.agg #[.int .i64 a, .int .i64 b]) true).run Try.prog w = .ok (.tuple #[.int .i64 0, .bool false]) w := by
  obtain ⟨v, ps, hrun, hv⟩ := hD.look_ok lawPair Try.underlying114 (zeroInt w) (zd := .lit (.int .i64 0)) (zp := []) (elInt ⟨by omega, by omega⟩) (keyPair (a, b) ha)
  have hh := hR.not ha hn
  rw [atKey_of_not_has hh] at hv
  obtain ⟨c, rfl, hz, -⟩ := plainElem_int_inv Try.underlying3 hv
  rw [hh] at hrun
  simp at hz
  rw [<- hz.1] at hrun
  exact hrun
theorem pstore (hD : w.ownsMap Try.prog 115 (plainElem Try.prog 3) bm L.length D) (hR : Rep PrOk prLit (fun x : Int => .lit (.int .i64 x)) D L) (hl : L.length < 1000000000) {a b : Int} (ha : PrOk (a, b)) {x : Int} (hx : I64 x) :
    ∃ w' D', (Instr.mapUpdate 114 (.map (some bm)) (.agg #[.int .i64 a, .int .i64 b]) (.int .i64 x)).run Try.prog w = .ok () w' /\ w'.ownsMap Try.prog 115 (plainElem Try.prog 3) bm (memoPut L (a, b) x).length D' /\ Rep PrOk prLit (fun x : Int => .lit (.int .i64 x)) D' (memoPut L (a, b) x) /\ Kept (fun k => k = bm) w w' := by
  obtain ⟨w', hrun, h1, h2⟩ := hD.update lawPair Try.underlying114 (by unfold maxLen; omega) (keyPair (a, b) ha) (elInt hx)
  have hR' : Rep PrOk prLit (fun x : Int => .lit (.int .i64 x)) (D.put (prLit (a, b)) (.lit (.int .i64 x))) (memoPut L (a, b) x) := by
    unfold memoPut
    by_cases hm : (a, b) ∈ L.map Prod.fst
    · rw [if_pos hm]; exact hR.put_over (fun _ _ => prLit_inj) prLit_key x hm
    · rw [if_neg hm]; exact hR.put (fun _ _ => prLit_inj) prLit_key ha hm x
  exact ⟨w', _, hrun, hR'.size ▸ ownsMap_norm h1, hR', Kept.of_grown h2 (fun i h => by cases h; rfl)⟩
end
end Go.Proofs.Ytbklgjmkdhinpaa.Fm
namespace Go.Proofs.Ytbklgjmkdhinpaa.Fm
open Go.RowKit Go.Maps Go.Proofs.Ytbklgjmkdhinpaa.Bd
def MemoAt (w : World) (dm : Nat) (k : K) (ns : List Nd) : Prop :=
  ∃ m D, w.ownsMap Try.prog 115 (plainElem Try.prog 3) dm m.length D /\ Rep PrOk prLit (fun x : Int => .lit (.int .i64 x)) D m /\ MemoOk k ns m
structure Ctx where
  s : Nat
  b : Nat
  wk : Nat
  room : Nat
  memos : List (Nat × K)
  boxes : List (Nat × Value)
def Ms (c : Ctx) (j : Nat) : Prop := ∃ q ∈ c.memos, q.1 = j
structure CtxAt (B : Nat) (w : World) (c : Ctx) (O : Nat -> Prop) (vars : Nat) (ns : List Nd) : Prop where
  space : SpaceAt B w c.s c.b O vars (c.room : Int) ns
  good : Good vars ns
  v24 : vars <= 24
  rm : c.room <= 4000
  len : ns.length <= 4000
  hB : B <= w.heap.size
  wb : w.heap[c.wk]? = some (.cells #[.pointer (some ⟨c.s, 0, none⟩), .nilIface] 90)
  wO : ¬ O c.wk
  wB : B <= c.wk
  memo : ∀ p ∈ c.memos, MemoAt w p.1 p.2 ns /\ ¬ O p.1 /\ p.1 ≠ c.s /\ p.1 ≠ c.wk /\ B <= p.1
  nodup : (c.memos.map Prod.fst).Nodup
  box : ∀ p ∈ c.boxes, p.1 < w.heap.size /\ w.cell? ⟨p.1, 0, none⟩ = some p.2 /\ ¬ O p.1 /\ ∀ q ∈ c.memos, q.1 ≠ p.1
structure MM (c : Ctx) (O O' : Nat -> Prop) (w w' : World) : Prop where
  kept : Kept (fun j => O j \/ Ms c j) w w'
  own : ∀ k, O' k -> O k \/ w.heap.size <= k
section
variable {B : Nat} {c : Ctx} {O O' O'' : Nat -> Prop} {vars : Nat} {ns ns' : List Nd} {w w' w'' : World} {k : K} {dm : Nat}
theorem MemoAt.lt (h : MemoAt w dm k ns) : dm < w.heap.size := by obtain ⟨m, D, hD, -⟩ := h; exact hD.lt
theorem MemoAt.kept {S : Nat -> Prop} (h : MemoAt w dm k ns) (hk : Kept S w w') (hn : ¬ S dm) : MemoAt w' dm k ns := by
  obtain ⟨m, D, hD, hR, hm⟩ := h
  exact ⟨m, D, ownsMap_kept hD hk hn, hR, hm⟩
theorem MemoAt.ext (h : MemoAt w dm k ns) (hr : Ranked ns) (he : Ext ns ns') : MemoAt w dm k ns' := by
  obtain ⟨m, D, hD, hR, hm⟩ := h
  exact ⟨m, D, hD, hR, hm.ext hr he⟩
theorem CtxAt.wlt (h : CtxAt B w c O vars ns) : c.wk < w.heap.size := (Array.getElem?_eq_some_iff.1 h.wb).1
theorem CtxAt.w0 (h : CtxAt B w c O vars ns) : w.cell? ⟨c.wk, 0, none⟩ = some (.pointer (some ⟨c.s, 0, none⟩)) := by simp [World.cell?, h.wb]
theorem CtxAt.w1 (h : CtxAt B w c O vars ns) : w.cell? ⟨c.wk, 1, none⟩ = some .nilIface := by simp [World.cell?, h.wb]
theorem CtxAt.kept {S : Nat -> Prop} (h : CtxAt B w c O vars ns) (hk : Kept S w w') (hO : ∀ k, O k -> ¬ S k) (hs : ¬ S c.s) (hw : ¬ S c.wk) (hm : ∀ p ∈ c.memos, ¬ S p.1) (hb : ∀ p ∈ c.boxes, ¬ S p.1) : CtxAt B w' c O vars ns :=
  ⟨h.space.kept hk hO hs, h.good, h.v24, h.rm, h.len, Nat.le_trans h.hB hk.size, (hk.block _ h.wlt hw).trans h.wb, h.wO, h.wB, fun p hp => ⟨(h.memo p hp).1.kept hk (hm p hp), (h.memo p hp).2⟩, h.nodup,
   fun p hp => ⟨Nat.lt_of_lt_of_le (h.box p hp).1 hk.size, (hk.cell (a := ⟨p.1, 0, none⟩) (h.box p hp).1 (hb p hp)).trans (h.box p hp).2.1, (h.box p hp).2.2⟩⟩
theorem CtxAt.new (h : CtxAt B w c O vars ns) (hb : Below w.heap.size w w') : CtxAt B w' c O vars ns :=
  h.kept (Kept.of_below hb (fun _ => False)) (fun _ _ h => h) (fun h => h) (fun h => h) (fun _ _ h => h) (fun _ _ h => h)
theorem MM.refl (c : Ctx) (O : Nat -> Prop) (w : World) : MM c O O w w := ⟨Kept.refl _ _, fun _ h => .inl h⟩
theorem MM.of_below (hb : Below w.heap.size w w') : MM c O O w w' := ⟨Kept.of_below hb _, fun _ h => .inl h⟩
theorem MM.of_moves (h : Moves O O' w w') : MM c O O' w w' := ⟨h.kept.mono (fun _ h => .inl h), h.own⟩
theorem MM.trans (h : MM c O O' w w') (k : MM c O' O'' w' w'') : MM c O O'' w w'' :=
  ⟨h.kept.andThen k.kept (fun i hi hlt => by
      rcases hi with hi | hi
      · rcases h.own i hi with h1 | h1
        · exact .inl h1
        · omega
      · exact .inr hi), fun i hi => by
    rcases k.own i hi with h1 | h1
    · exact h.own i h1
    · exact .inr (Nat.le_trans h.kept.size h1)⟩
theorem MM.size (h : MM c O O' w w') : w.heap.size <= w'.heap.size := h.kept.size
theorem MM.beside (h : MM c O O' w w') {j : Nat} (hlt : j < w.heap.size) (hn : ¬ O j) : ¬ O' j := fun ho => by
  rcases h.own j ho with h1 | h1
  · exact hn h1
  · omega
theorem MM.cell (h : MM c O O' w w') {a : Addr} (hlt : a.block < w.heap.size) (hn : ¬ O a.block) (hd : ¬ Ms c a.block) : w'.cell? a = w.cell? a := h.kept.cell hlt (fun ho => ho.elim hn hd)
theorem CtxAt.moved (h : CtxAt B w c O vars ns) (hS : SpaceAt B w' c.s c.b O' vars (c.room : Int) ns') (hm : Moves O O' w w') (hg : Good vars ns') (hx : Ext ns ns') (hl : ns'.length <= 4000) : CtxAt B w' c O' vars ns' :=
  ⟨hS, hg, h.v24, h.rm, hl, Nat.le_trans h.hB hm.size, (hm.kept.block _ h.wlt h.wO).trans h.wb, hm.beside h.wlt h.wO, h.wB,
   fun p hp => ⟨((h.memo p hp).1.kept hm.kept (h.memo p hp).2.1).ext h.good.ranked hx, hm.beside (h.memo p hp).1.lt (h.memo p hp).2.1, (h.memo p hp).2.2⟩, h.nodup,
   fun p hp => ⟨Nat.lt_of_lt_of_le (h.box p hp).1 hm.size, (hm.kept.cell (a := ⟨p.1, 0, none⟩) (h.box p hp).1 (h.box p hp).2.2.1).trans (h.box p hp).2.1, hm.beside (h.box p hp).1 (h.box p hp).2.2.1, (h.box p hp).2.2.2⟩⟩
theorem fst_eq {l : List (Nat × K)} {q : Nat × K} {dm : Nat} {k : K} (hn : (l.map Prod.fst).Nodup) (hq : q ∈ l) (hp : (dm, k) ∈ l) (e : q.1 = dm) : q = (dm, k) := by
  induction l with
  | nil => cases hq
  | cons x l ih =>
    rw [List.map_cons, List.nodup_cons] at hn
    rcases List.mem_cons.1 hq with rfl | hq' <;> rcases List.mem_cons.1 hp with hp' | hp'
    · exact hp'.symm
    · exact absurd (List.mem_map.2 ⟨_, hp', e.symm⟩) hn.1
    · subst hp'; exact absurd (List.mem_map.2 ⟨_, hq', e⟩) hn.1
    · exact ih hn.2 hq' hp'
theorem CtxAt.noted (h : CtxAt B w c O vars ns) (hp : (dm, k) ∈ c.memos) (hk : Kept (fun j => j = dm) w w') (hm : MemoAt w' dm k ns) : CtxAt B w' c O vars ns := by
  obtain ⟨-, m1, m2, m3, m4⟩ := h.memo _ hp
  refine ⟨h.space.kept hk (fun j hj e => m1 (e ▸ hj)) (fun e => m2 e.symm), h.good, h.v24, h.rm, h.len, Nat.le_trans h.hB hk.size, (hk.block _ h.wlt (fun e => m3 e.symm)).trans h.wb, h.wO, h.wB, fun q hq => ?_, h.nodup,
    fun q hq => ⟨Nat.lt_of_lt_of_le (h.box q hq).1 hk.size, (hk.cell (a := ⟨q.1, 0, none⟩) (h.box q hq).1 (fun e => (h.box q hq).2.2.2 _ hp e.symm)).trans (h.box q hq).2.1, (h.box q hq).2.2⟩⟩
  refine ⟨?_, (h.memo q hq).2⟩
  by_cases e : q.1 = dm
  · have : q = (dm, k) := fst_eq h.nodup hq hp e
    rw [this]; exact hm
  · exact (h.memo q hq).1.kept hk e
theorem memo_len {m : List ((Int × Int) × Int)} {D : DataW Unit} (hR : Rep PrOk prLit (fun x : Int => .lit (.int .i64 x)) D m) (hm : MemoOk k ns m) (hl : ns.length <= 4000) : m.length < 1000000000 := by
  have hh : ∀ {h : Int}, hasB ns h = true -> h ∈ (List.range 4002).map (fun i : Nat => (i : Int)) := fun {h} hh => by
    rw [List.mem_map]
    rcases hasB_cases hh with rfl | rfl | ht
    · exact ⟨0, by simp, rfl⟩
    · exact ⟨1, by simp, rfl⟩
    · obtain ⟨h1, h2, -, h4⟩ := node_at (ns := ns) (h := h) (by omega)
      exact ⟨h.toNat, by rw [List.mem_range]; omega, by omega⟩
  have := inj_len (m.map Prod.fst) (((List.range 4002).map (fun i : Nat => (i : Int))).flatMap fun a => ((List.range 4002).map (fun i : Nat => (i : Int))).map fun b => (a, b)) id hR.nodup (fun p hp => by
    obtain ⟨q, hq, rfl⟩ := List.mem_map.1 hp
    rw [List.mem_flatMap]
    exact ⟨_, hh (hm.a q hq), List.mem_map.2 ⟨_, hh (hm.b q hq), rfl⟩⟩) (fun _ _ _ _ e => e)
  rw [pairs_len, List.length_map, List.length_map, List.length_range] at this
  omega
end
theorem wk_set {W : World} {b : Nat} {t : TypeId} {p q : Value} (h : W.heap[b]? = some (.cells #[p, q] t)) : W.setCell ⟨b, 1, none⟩ q = W := by
  have hlt := (Array.getElem?_eq_some_iff.1 h).1
  have e : (W.setCell ⟨b, 1, none⟩ q).heap = W.heap := by
    apply Array.ext_getElem?
    intro k
    by_cases hk : k = b
    · subst hk
      simp [World.setCell, Array.getElem?_modify, h]
    · exact Below.heap_setCell W ⟨b, 1, none⟩ q k hk
  cases W
  simp only [World.setCell] at e ⊢
  simp only [World.mk.injEq, and_true]
  exact e
def OpOut (B : Nat) (c : Ctx) (O : Nat -> Prop) (vars : Nat) (k : K) (ns : List Nd) (a b : Int) (w : World) (e : Ending) (w' : World) : Prop :=
  ∃ h ns' O', e = .returned (.int .i64 h) /\ CtxAt B w' c O' vars ns' /\ MM c O O' w w' /\ Res vars k ns a b ns' h
end Go.Proofs.Ytbklgjmkdhinpaa.Fm
