/- parts, node; what is seen at once. -/
import Derived.Test.YtbklgjmkdhinpaaGreatDoorFmMap
set_option maxHeartbeats 1000000
set_option maxRecDepth 100000
namespace Go.Proofs.YtbklgjmkdhinpaaGreatDoor.Fm
open Go.RowKit Go.Maps Go.Proofs.YtbklgjmkdhinpaaGreatDoor.Bd
def MemoAt (w : World) (dm : Nat) (k : K) (ns : List Nd) : Prop :=
  ∃ m D, w.ownsMap Tryz.prog 154 (plainElem Tryz.prog 3) dm m.length D /\ Rep PrOk prLit (fun x : Int => .lit (.int .i64 x)) D m /\ MemoOk k ns m
structure Ctx where
  s : Nat
  b : Nat
  wk : Nat
  room : Nat
  memos : List (Nat × K)
  boxes : List (Nat × Value)
def Ms (c : Ctx) (j : Nat) : Prop := ∃ q ∈ c.memos, q.1 = j
structure CtxAt (B : Nat) (w : World) (c : Ctx) (O : Nat -> Prop) (vars : Nat) (ns : List Nd) : Prop where
  space : SpaceAt B w c.s c.b O vars (c.room : Int) ns
  good : Good vars ns
  v24 : vars <= 24
  rm : c.room <= 4000
  len : ns.length <= 4000
  hB : B <= w.heap.size
  wb : w.heap[c.wk]? = some (.cells #[.pointer (some ⟨c.s, 0, none⟩), .nilIface] 95)
  wO : ¬ O c.wk
  wB : B <= c.wk
  memo : ∀ p ∈ c.memos, MemoAt w p.1 p.2 ns /\ ¬ O p.1 /\ p.1 ≠ c.s /\ p.1 ≠ c.wk /\ B <= p.1
  nodup : (c.memos.map Prod.fst).Nodup
  box : ∀ p ∈ c.boxes, p.1 < w.heap.size /\ w.cell? ⟨p.1, 0, none⟩ = some p.2 /\ ¬ O p.1 /\ ∀ q ∈ c.memos, q.1 ≠ p.1
structure MM (c : Ctx) (O O' : Nat -> Prop) (w w' : World) : Prop where
  kept : Kept (fun j => O j \/ Ms c j) w w'
  own : ∀ k, O' k -> O k \/ w.heap.size <= k
section
variable {B : Nat} {c : Ctx} {O O' O'' : Nat -> Prop} {vars : Nat} {ns ns' : List Nd} {w w' w'' : World} {k : K} {dm : Nat}
theorem MemoAt.lt (h : MemoAt w dm k ns) : dm < w.heap.size := by obtain ⟨m, D, hD, -⟩ := h; exact hD.lt
theorem MemoAt.kept {S : Nat -> Prop} (h : MemoAt w dm k ns) (hk : Kept S w w') (hn : ¬ S dm) : MemoAt w' dm k ns := by
  obtain ⟨m, D, hD, hR, hm⟩ := h
  exact ⟨m, D, ownsMap_kept hD hk hn, hR, hm⟩
theorem MemoAt.ext (h : MemoAt w dm k ns) (hr : Ranked ns) (he : Ext ns ns') : MemoAt w dm k ns' := by
  obtain ⟨m, D, hD, hR, hm⟩ := h
  exact ⟨m, D, hD, hR, hm.ext hr he⟩
theorem CtxAt.wlt (h : CtxAt B w c O vars ns) : c.wk < w.heap.size := (Array.getElem?_eq_some_iff.1 h.wb).1
theorem CtxAt.w0 (h : CtxAt B w c O vars ns) : w.cell? ⟨c.wk, 0, none⟩ = some (.pointer (some ⟨c.s, 0, none⟩)) := by simp [World.cell?, h.wb]
theorem CtxAt.w1 (h : CtxAt B w c O vars ns) : w.cell? ⟨c.wk, 1, none⟩ = some .nilIface := by simp [World.cell?, h.wb]
theorem CtxAt.kept {S : Nat -> Prop} (h : CtxAt B w c O vars ns) (hk : Kept S w w') (hO : ∀ k, O k -> ¬ S k) (hs : ¬ S c.s) (hw : ¬ S c.wk) (hm : ∀ p ∈ c.memos, ¬ S p.1) (hb : ∀ p ∈ c.boxes, ¬ S p.1) : CtxAt B w' c O vars ns :=
  ⟨h.space.kept hk hO hs, h.good, h.v24, h.rm, h.len, Nat.le_trans h.hB hk.size, (hk.block _ h.wlt hw).trans h.wb, h.wO, h.wB, fun p hp => ⟨(h.memo p hp).1.kept hk (hm p hp), (h.memo p hp).2⟩, h.nodup,
   fun p hp => ⟨Nat.lt_of_lt_of_le (h.box p hp).1 hk.size, (hk.cell (a := ⟨p.1, 0, none⟩) (h.box p hp).1 (hb p hp)).trans (h.box p hp).2.1, (h.box p hp).2.2⟩⟩
theorem CtxAt.new (h : CtxAt B w c O vars ns) (hb : Below w.heap.size w w') : CtxAt B w' c O vars ns :=
  h.kept (Kept.of_below hb (fun _ => False)) (fun _ _ h => h) (fun h => h) (fun h => h) (fun _ _ h => h) (fun _ _ h => h)
theorem MM.refl (c : Ctx) (O : Nat -> Prop) (w : World) : MM c O O w w := ⟨Kept.refl _ _, fun _ h => .inl h⟩
theorem MM.of_below (hb : Below w.heap.size w w') : MM c O O w w' := ⟨Kept.of_below hb _, fun _ h => .inl h⟩
theorem MM.of_moves (h : Moves O O' w w') : MM c O O' w w' := ⟨h.kept.mono (fun _ h => .inl h), h.own⟩
theorem MM.trans (h : MM c O O' w w') (k : MM c O' O'' w' w'') : MM c O O'' w w'' :=
  ⟨h.kept.andThen k.kept (fun i hi hlt => by
      rcases hi with hi | hi
      · rcases h.own i hi with h1 | h1
        · exact .inl h1
        · omega
      · exact .inr hi), fun i hi => by
    rcases k.own i hi with h1 | h1
    · exact h.own i h1
    · exact .inr (Nat.le_trans h.kept.size h1)⟩
theorem MM.size (h : MM c O O' w w') : w.heap.size <= w'.heap.size := h.kept.size
theorem MM.beside (h : MM c O O' w w') {j : Nat} (hlt : j < w.heap.size) (hn : ¬ O j) : ¬ O' j := fun ho => by
  rcases h.own j ho with h1 | h1
  · exact hn h1
  · omega
theorem MM.cell (h : MM c O O' w w') {a : Addr} (hlt : a.block < w.heap.size) (hn : ¬ O a.block) (hd : ¬ Ms c a.block) : w'.cell? a = w.cell? a := h.kept.cell hlt (fun ho => ho.elim hn hd)
theorem CtxAt.moved (h : CtxAt B w c O vars ns) (hS : SpaceAt B w' c.s c.b O' vars (c.room : Int) ns') (hm : Moves O O' w w') (hg : Good vars ns') (hx : Ext ns ns') (hl : ns'.length <= 4000) : CtxAt B w' c O' vars ns' :=
  ⟨hS, hg, h.v24, h.rm, hl, Nat.le_trans h.hB hm.size, (hm.kept.block _ h.wlt h.wO).trans h.wb, hm.beside h.wlt h.wO, h.wB,
   fun p hp => ⟨((h.memo p hp).1.kept hm.kept (h.memo p hp).2.1).ext h.good.ranked hx, hm.beside (h.memo p hp).1.lt (h.memo p hp).2.1, (h.memo p hp).2.2⟩, h.nodup,
   fun p hp => ⟨Nat.lt_of_lt_of_le (h.box p hp).1 hm.size, (hm.kept.cell (a := ⟨p.1, 0, none⟩) (h.box p hp).1 (h.box p hp).2.2.1).trans (h.box p hp).2.1, hm.beside (h.box p hp).1 (h.box p hp).2.2.1, (h.box p hp).2.2.2⟩⟩
theorem fst_eq {l : List (Nat × K)} {q : Nat × K} {dm : Nat} {k : K} (hn : (l.map Prod.fst).Nodup) (hq : q ∈ l) (hp : (dm, k) ∈ l) (e : q.1 = dm) : q = (dm, k) := by
  induction l with
  | nil => cases hq
  | cons x l ih =>
    rw [List.map_cons, List.nodup_cons] at hn
    rcases List.mem_cons.1 hq with rfl | hq' <;> rcases List.mem_cons.1 hp with hp' | hp'
    · exact hp'.symm
    · exact absurd (List.mem_map.2 ⟨_, hp', e.symm⟩) hn.1
    · subst hp'; exact absurd (List.mem_map.2 ⟨_, hq', e⟩) hn.1
    · exact ih hn.2 hq' hp'
theorem CtxAt.noted (h : CtxAt B w c O vars ns) (hp : (dm, k) ∈ c.memos) (hk : Kept (fun j => j = dm) w w') (hm : MemoAt w' dm k ns) : CtxAt B w' c O vars ns := by
  obtain ⟨-, m1, m2, m3, m4⟩ := h.memo _ hp
  refine ⟨h.space.kept hk (fun j hj e => m1 (e ▸ hj)) (fun e => m2 e.symm), h.good, h.v24, h.rm, h.len, Nat.le_trans h.hB hk.size, (hk.block _ h.wlt (fun e => m3 e.symm)).trans h.wb, h.wO, h.wB, fun q hq => ?_, h.nodup,
    fun q hq => ⟨Nat.lt_of_lt_of_le (h.box q hq).1 hk.size, (hk.cell (a := ⟨q.1, 0, none⟩) (h.box q hq).1 (fun e => (h.box q hq).2.2.2 _ hp e.symm)).trans (h.box q hq).2.1, (h.box q hq).2.2⟩⟩
  refine ⟨?_, (h.memo q hq).2⟩
  by_cases e : q.1 = dm
  · have : q = (dm, k) := fst_eq h.nodup hq hp e
    rw [this]; exact hm
  · exact (h.memo q hq).1.kept hk e
theorem memo_len {m : List ((Int × Int) × Int)} {D : DataW Unit} (hR : Rep PrOk prLit (fun x : Int => .lit (.int .i64 x)) D m) (hm : MemoOk k ns m) (hl : ns.length <= 4000) : m.length < 1000000000 := by
  have hh : ∀ {h : Int}, hasB ns h = true -> h ∈ (List.range 4002).map (fun i : Nat => (i : Int)) := fun {h} hh => by
    rw [List.mem_map]
    rcases hasB_cases hh with rfl | rfl | ht
    · exact ⟨0, by simp, rfl⟩
    · exact ⟨1, by simp, rfl⟩
    · obtain ⟨h1, h2, -, h4⟩ := node_at (ns := ns) (h := h) (by omega)
      exact ⟨h.toNat, by rw [List.mem_range]; omega, by omega⟩
  have := inj_len (m.map Prod.fst) (((List.range 4002).map (fun i : Nat => (i : Int))).flatMap fun a => ((List.range 4002).map (fun i : Nat => (i : Int))).map fun b => (a, b)) id hR.nodup (fun p hp => by
    obtain ⟨q, hq, rfl⟩ := List.mem_map.1 hp
    rw [List.mem_flatMap]
    exact ⟨_, hh (hm.a q hq), List.mem_map.2 ⟨_, hh (hm.b q hq), rfl⟩⟩) (fun _ _ _ _ e => e)
  rw [pairs_len, List.length_map, List.length_map, List.length_range] at this
  omega
end
theorem wk_set {W : World} {b : Nat} {t : TypeId} {p q : Value} (h : W.heap[b]? = some (.cells #[p, q] t)) : W.setCell ⟨b, 1, none⟩ q = W := by
  have hlt := (Array.getElem?_eq_some_iff.1 h).1
  have e : (W.setCell ⟨b, 1, none⟩ q).heap = W.heap := by
    apply Array.ext_getElem?
    intro k
    by_cases hk : k = b
    · subst hk
      simp [World.setCell, Array.getElem?_modify, h]
    · exact Below.heap_setCell W ⟨b, 1, none⟩ q k hk
  cases W
  simp only [World.setCell] at e ⊢
  simp only [World.mk.injEq, and_true]
  exact e
def OpOut (B : Nat) (c : Ctx) (O : Nat -> Prop) (vars : Nat) (k : K) (ns : List Nd) (a b : Int) (w : World) (e : Ending) (w' : World) : Prop :=
  ∃ h ns' O', e = .returned (.int .i64 h) /\ CtxAt B w' c O' vars ns' /\ MM c O O' w w' /\ Res vars k ns a b ns' h
end Go.Proofs.YtbklgjmkdhinpaaGreatDoor.Fm
namespace Go.Proofs.YtbklgjmkdhinpaaGreatDoor.Fm
open Go.RowKit Go.Maps Go.Proofs.YtbklgjmkdhinpaaGreatDoor.Bd
def Two (W : World) (r : Nat) (x y : Int) : Prop := W.heap[r]? = some (.cells #[.int .i64 x, .int .i64 y] 124)
theorem two_put {W : World} {r : Nat} {x y : Int} (h : Two W r x y) (m n : Int) :
    (W.cell? ⟨r, 0, none⟩ = some (.int .i64 x) /\ W.frozen? ⟨r, 0, none⟩ = false /\ W.cell? ⟨r, 1, none⟩ = some (.int .i64 y) /\ W.frozen? ⟨r, 1, none⟩ = false) /\
    ((W.setCell ⟨r, 0, none⟩ (.int .i64 m)).cell? ⟨r, 1, none⟩ = some (.int .i64 y) /\ (W.setCell ⟨r, 0, none⟩ (.int .i64 m)).frozen? ⟨r, 1, none⟩ = false) /\
    ((W.setCell ⟨r, 0, none⟩ (.int .i64 m)).setCell ⟨r, 1, none⟩ (.int .i64 n)).cell? ⟨r, 0, none⟩ = some (.int .i64 m) /\
    ((W.setCell ⟨r, 0, none⟩ (.int .i64 m)).setCell ⟨r, 1, none⟩ (.int .i64 n)).cell? ⟨r, 1, none⟩ = some (.int .i64 n) := by
  have h0 : W.cell? ⟨r, 0, none⟩ = some (.int .i64 x) := by unfold Two at h; simp [World.cell?, h]
  have h1 : W.cell? ⟨r, 1, none⟩ = some (.int .i64 y) := by unfold Two at h; simp [World.cell?, h]
  have f0 : W.frozen? ⟨r, 0, none⟩ = false := by unfold Two at h; simp [World.frozen?, h]
  have f1 : W.frozen? ⟨r, 1, none⟩ = false := by unfold Two at h; simp [World.frozen?, h]
  have e1 : (W.setCell ⟨r, 0, none⟩ (.int .i64 m)).cell? ⟨r, 1, none⟩ = some (.int .i64 y) := by rw [World.cell?_setCell_other _ _ _ _ (by simp)]; exact h1
  refine ⟨⟨h0, f0, h1, f1⟩, ⟨e1, by rw [World.frozen?_setCell]; exact f1⟩, ?_, World.cell?_setCell_same' _ _ _ (by rw [e1]; rfl)⟩
  rw [World.cell?_setCell_other _ _ _ _ (by simp)]
  exact World.cell?_setCell_same' _ _ _ (by rw [h0]; rfl)
theorem Two.new (w : World) (x y : Int) : Two (w.alloc (.cells #[.int .i64 x, .int .i64 y] 124)) w.heap.size x y := by
  show (w.heap.push _)[w.heap.size]? = _
  simp
theorem Two.below {w w' : World} {r : Nat} {x y : Int} (h : Two w r x y) (hb : Below w.heap.size w w') : Two w' r x y := (hb.block r (Array.getElem?_eq_some_iff.1 h).1).trans h
section
variable {B s b : Nat} {O : Nat -> Prop} {vars : Nat} {ns : List Nd} {w : World} {c : Ctx}
theorem parts_any {room : Int} {wk : Nat} (hS : SpaceAt B w s b O vars room ns) (w0 : w.cell? ⟨wk, 0, none⟩ = some (.pointer (some ⟨s, 0, none⟩))) (hl : ns.length <= 90000) (h v : Int) (hi : I64 h) (hv1 : v < 24) :
    Calls Tryz.prog 110 #[.pointer (some ⟨wk, 0, none⟩), .int .i64 h, .int .i64 v] w fun e w' => e = .returned (.agg #[.int .i64 (loZ ns h v), .int .i64 (hiZ ns h v)]) /\ Below w.heap.size w w' := by
  have hb0 := below_new w (.cells #[.int .i64 0, .int .i64 0] 124)
  have wkl : wk < w.heap.size := (cells_at (a := ⟨wk, 0, none⟩) w0).lt
  have q0 := (hb0.cell (p := ⟨wk, 0, none⟩) wkl).trans w0
  have c0 := (hS.new hb0).c0
  have HG := Lib.hid (spGet (hS.new hb0) h hi hl)
  have HR := Lib.hid (Two.new w 0 0)
  have HB0 := Lib.hid hb0
  clear hb0
  by_cases ht : topOf ns h = 24
  · have e1 : loZ ns h v = h := by unfold loZ; rw [if_neg (by omega)]
    have e2 : hiZ ns h v = 0 := by unfold hiZ; rw [if_neg (by omega)]
    rw [e1, e2]
    rw [show decide (topOf ns h ≠ 24) = false by simp [ht]] at HG
    generalize getOf ns h = gn at *
    obtain ⟨gv, gl, gh⟩ := gn
    unfold Nd.val at HG
    clear hS e1 e2 ht
    go_enter Tryz.func110, Tryz.ntmps110
    go_wp2_with fail
    refine HG.out.mono ?_
    rintro e w1 ⟨rfl, hb1⟩
    have hb2 := hb1.alloc hb1.size (.cells #[.int .i64 gv, .int .i64 gl, .int .i64 gh] 83)
    obtain ⟨x0, x1, x2, -⟩ := cell3 w1 (.int .i64 gv) (.int .i64 gl) (.int .i64 gh) 83
    have hr2 := HR.out.below hb2
    have HB3 : Hid (Below w.heap.size w (w1.alloc (.cells #[.int .i64 gv, .int .i64 gl, .int .i64 gh] 83))) := HB0.out.trans (hb2.mono HB0.out.size)
    clear HG hb1 hb2 HR HB0
    obtain ⟨⟨r0, r1, r2, r3⟩, ⟨r4, r5⟩, r6, r7⟩ := two_put hr2 h 0
    clear hr2
    have R6 := Lib.hid r6
    have R7 := Lib.hid r7
    clear r6 r7
    go_wp2
    exact bodyPost_ret (v := .agg #[.int .i64 h, .int .i64 0]) (by simp [results, Tryz.results110, go_sem, R6.out, R7.out]) rfl ⟨rfl, (HB3.out.setCell (Nat.le_refl _) _).setCell (Nat.le_refl _) _⟩
  rw [show decide (topOf ns h ≠ 24) = true by simp [ht]] at HG
  have hgv : (getOf ns h).v = topOf ns h := by
    obtain ⟨h1, h2, h3, h4⟩ := node_at ht
    unfold getOf; rw [if_neg ht]; exact h3.symm
  have hgn : getOf ns h = nd ns (pl h) := by unfold getOf; rw [if_neg ht]; rfl
  by_cases ev : topOf ns h = v
  · have e1 : loZ ns h v = (getOf ns h).l := by unfold loZ; rw [if_pos ev, hgn]
    have e2 : hiZ ns h v = (getOf ns h).h := by unfold hiZ; rw [if_pos ev, hgn]
    rw [e1, e2]
    rw [ev] at hgv
    generalize getOf ns h = gn at *
    obtain ⟨gv, gl, gh⟩ := gn
    simp only at hgv
    subst hgv
    unfold Nd.val at HG
    clear hS e1 e2 ht ev hgn
    go_enter Tryz.func110, Tryz.ntmps110
    go_wp2_with fail
    refine HG.out.mono ?_
    rintro e w1 ⟨rfl, hb1⟩
    have hb2 := hb1.alloc hb1.size (.cells #[.int .i64 gv, .int .i64 gl, .int .i64 gh] 83)
    obtain ⟨x0, x1, x2, -⟩ := cell3 w1 (.int .i64 gv) (.int .i64 gl) (.int .i64 gh) 83
    have hr2 := HR.out.below hb2
    have HB3 : Hid (Below w.heap.size w (w1.alloc (.cells #[.int .i64 gv, .int .i64 gl, .int .i64 gh] 83))) := HB0.out.trans (hb2.mono HB0.out.size)
    clear HG hb1 hb2 HR HB0
    obtain ⟨⟨r0, r1, r2, r3⟩, ⟨r4, r5⟩, r6, r7⟩ := two_put hr2 gl gh
    clear hr2
    have R6 := Lib.hid r6
    have R7 := Lib.hid r7
    clear r6 r7
    go_wp2
    exact bodyPost_ret (v := .agg #[.int .i64 gl, .int .i64 gh]) (by simp [results, Tryz.results110, go_sem, R6.out, R7.out]) rfl ⟨rfl, (HB3.out.setCell (Nat.le_refl _) _).setCell (Nat.le_refl _) _⟩
  · have e1 : loZ ns h v = h := by unfold loZ; rw [if_neg ev]
    have e2 : hiZ ns h v = 0 := by unfold hiZ; rw [if_neg ev]
    rw [e1, e2]
    have hne : ¬ (getOf ns h).v = v := by rw [hgv]; exact ev
    generalize getOf ns h = gn at *
    obtain ⟨gv, gl, gh⟩ := gn
    simp only at hne
    unfold Nd.val at HG
    clear hS e1 e2 ht ev hgn hgv
    go_enter Tryz.func110, Tryz.ntmps110
    go_wp2_with fail
    refine HG.out.mono ?_
    rintro e w1 ⟨rfl, hb1⟩
    have hb2 := hb1.alloc hb1.size (.cells #[.int .i64 gv, .int .i64 gl, .int .i64 gh] 83)
    obtain ⟨x0, x1, x2, -⟩ := cell3 w1 (.int .i64 gv) (.int .i64 gl) (.int .i64 gh) 83
    have hr2 := HR.out.below hb2
    have HB3 : Hid (Below w.heap.size w (w1.alloc (.cells #[.int .i64 gv, .int .i64 gl, .int .i64 gh] 83))) := HB0.out.trans (hb2.mono HB0.out.size)
    clear HG hb1 hb2 HR HB0
    obtain ⟨⟨r0, r1, r2, r3⟩, ⟨r4, r5⟩, r6, r7⟩ := two_put hr2 h 0
    clear hr2
    have R6 := Lib.hid r6
    have R7 := Lib.hid r7
    clear r6 r7
    go_wp2
    exact bodyPost_ret (v := .agg #[.int .i64 h, .int .i64 0]) (by simp [results, Tryz.results110, go_sem, R6.out, R7.out]) rfl ⟨rfl, (HB3.out.setCell (Nat.le_refl _) _).setCell (Nat.le_refl _) _⟩
theorem node_any (hC : CtxAt B w c O vars ns) (hcnt : (cnt ns : Int) < (c.room : Int)) (v p q : Int) (hv0 : 0 <= v) (hv1 : v < 24) (hp1 : hasB ns p = true) (hq1 : hasB ns q = true) (tp : v < topOf ns p) (tq : v < topOf ns q) :
    Calls Tryz.prog 85 #[.pointer (some ⟨c.wk, 0, none⟩), .int .i64 v, .agg #[.int .i64 p, .int .i64 q]] w fun e w' => e = .returned (.int .i64 (nodeZ ns v p q).2) /\ ∃ O', SpaceAt B w' c.s c.b O' vars (c.room : Int) (nodeZ ns v p q).1 /\ Moves O O' w w' := by
  have hb0 := below_new w (.cells #[.int .i64 p, .int .i64 q] 124)
  have hC0 := hC.new hb0
  have w0 := hC0.w0
  have w1 := hC0.w1
  have c0 := hC0.space.c0
  have hr := Two.new w p q
  obtain ⟨⟨r0, -, r2, -⟩, -⟩ := two_put hr 0 0
  clear hr
  have HB0 := Lib.hid hb0
  by_cases e : q = 0
  · have hn : nodeZ ns v p q = (ns, p) := by unfold nodeZ; rw [if_pos e]
    rw [hn]
    subst e
    have HS := Lib.hid hC0.space
    clear hC hC0 hp1 hq1 tp tq hn hb0
    go_enter Tryz.func85, Tryz.ntmps85
    go_wp2
    go_ret
    exact ⟨rfl, O, HS.out, Moves.of_below O HB0.out⟩
  · have hn : nodeZ ns v p q = makeF ns ⟨v, p, q⟩ := by unfold nodeZ; rw [if_neg e]
    rw [hn]
    have hl := hC.len
    have hbd : Below (w.alloc (.cells #[.int .i64 p, .int .i64 q] 124)).heap.size (w.alloc (.cells #[.int .i64 p, .int .i64 q] 124)) (w.alloc (.cells #[.int .i64 p, .int .i64 q] 124)).drew := (Below.refl _ _).drew
    have hC1 := hC0.new hbd
    have hm := make_any hC1.space (by omega) hcnt hC1.hB ⟨v, p, q⟩ ⟨⟨by show _ <= v; omega, by show v <= _; omega⟩, has_i64 hp1 (by omega), has_i64 hq1 (by omega)⟩ ⟨hv0, hv1, hp1, hq1, tp, tq⟩
    unfold Nd.val at hm
    have HM := Lib.hid hm
    have HC := Lib.hid hC1
    have bl : ¬ O w.heap.size := fun ho => by have := (hC.space.own _ ho).2; omega
    have bl2 : w.heap.size < (w.alloc (.cells #[.int .i64 p, .int .i64 q] 124)).drew.heap.size := by show _ < (w.alloc _).heap.size; simp
    have wl := hC1.wlt
    have sl := hC1.space.slt
    have wO := hC1.wO
    have sO := hC1.space.sO
    clear hC hC0 hC1 hp1 hq1 tp tq hn hb0 hbd hm
    generalize makeF ns ⟨v, p, q⟩ = r at *
    have q0 : (q == 0) = false := by simpa using e
    go_enter Tryz.func85, Tryz.ntmps85
    go_wp2_with fail
    generalize (w.alloc (.cells #[.int .i64 p, .int .i64 q] 124)) = W1 at *
    have e0 : W1.drew.cell? ⟨c.wk, 0, none⟩ = some (.pointer (some ⟨c.s, 0, none⟩)) := w0
    have e1 : W1.drew.cell? ⟨c.s, 0, none⟩ = some (.pointer (some ⟨c.b, 0, none⟩)) := c0
    have e2 : W1.drew.cell? ⟨w.heap.size, 0, none⟩ = some (.int .i64 p) := r0
    have e3 : W1.drew.cell? ⟨w.heap.size, 1, none⟩ = some (.int .i64 q) := r2
    go_region_held3 (fun w' => w'.cell? ⟨c.wk, 0, none⟩ = some (.pointer (some ⟨c.s, 0, none⟩)) /\ w'.cell? ⟨c.s, 0, none⟩ = some (.pointer (some ⟨c.b, 0, none⟩)) /\ w'.cell? ⟨w.heap.size, 0, none⟩ = some (.int .i64 p) /\ w'.cell? ⟨w.heap.size, 1, none⟩ = some (.int .i64 q)) (first | exact ⟨e0, e1, e2, e3⟩ | exact ⟨(hmv.cell (a := ⟨c.wk, 0, none⟩) wl wO).trans e0, (hmv.cell (a := ⟨c.s, 0, none⟩) sl sO).trans e1, (hmv.cell (a := ⟨w.heap.size, 0, none⟩) bl2 bl).trans e2, (hmv.cell (a := ⟨w.heap.size, 1, none⟩) bl2 bl).trans e3⟩)
      (first | (with_reducible refine HM.out.mono ?_; rintro e w2 ⟨rfl, O', hSp, hmv⟩))
    have wb2 : w2.heap[c.wk]? = some (.cells #[.pointer (some ⟨c.s, 0, none⟩), .nilIface] 95) := (hmv.kept.block _ wl wO).trans HC.out.wb
    have hset := wk_set wb2
    have g1 : w2.cell? ⟨c.wk, 1, none⟩ = some .nilIface := by simp [World.cell?, wb2]
    have f1 : w2.frozen? ⟨c.wk, 1, none⟩ = false := by simp [World.frozen?, wb2]
    have HSP := Lib.hid hSp
    have HMV : Hid (Moves O O' w w2) := (Moves.of_below O HB0.out.drew).trans hmv
    clear hSp hmv HM HC wb2 HB0
    go_wp2
    go_ret
    exact ⟨rfl, O', HSP.out, HMV.out⟩
end
end Go.Proofs.YtbklgjmkdhinpaaGreatDoor.Fm
