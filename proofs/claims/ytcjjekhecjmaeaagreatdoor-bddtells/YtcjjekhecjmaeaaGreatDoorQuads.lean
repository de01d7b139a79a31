/- A list of structs of four ints, as an argument. -/
import Derived.Test.YtcjjekhecjmaeaaGreatDoorBdFree
import Derived.Test.YtcjjekhecjmaeaaGreatDoorImLayP
import Derived.Test.YtcjjekhecjmaeaaGreatDoorArQuad
import Derived.Deep.Slices
import Derived.Lib.SmallJoins
set_option maxRecDepth 100000
namespace Go.Proofs.YtcjjekhecjmaeaaGreatDoor
section
open Go.RowKit Go.Maps Go.Shelf
def lineF (ns : List Nd) (D : List Int) (x : Int) : List UInt8 := toldF [(nd ns (pl x)).v, numD D (nd ns (pl x)).l, numD D (nd ns (pl x)).h] ++ [10]
section
variable {A : Nat} {w : World} {s b : Nat} {O : Nat -> Prop} {vars : Nat} {room : Int} {ns : List Nd}
end
end
section
open Go.RowKit Go.Maps
section
variable {ns : List Nd}
theorem marks_top (hr : Ranked ns) (h : Int) : MarkedOr ns (marksOf ns [h]) h :=
 (markF_closed hr 24 h (List.replicate ns.length false) (by simp) (by have := (topOf_le hr h).1; omega)).1
end
theorem itoa_nat (n : Nat) : Lib.itoa (n : Int) = Lib.decDigits n := by unfold Lib.itoa; rw [if_neg (by omega)]; simp
section
variable {ns : List Nd} {D : List Int} {vars : Nat} {h : Int}
end
end
section
open Go.RowKit
def addN (acc : List Int) (x : Int) : List Int := if x ∈ acc then acc else acc ++ [x]
def nextF (ns : List Nd) (v : Nat) (l : List Int) : List Int := (l.flatMap fun x => [loS ns x v, hiS ns x v]).foldl addN []
def levF (ns : List Nd) (h : Int) : Nat -> List Int
 | 0 => [h]
 | v + 1 => nextF ns v (levF ns h v)
def topsN (ns : List Nd) (v : Nat) (l : List Int) : Nat := (l.filter fun x => decide (topOf ns x = (v : Int))).length
def sizeN (ns : List Nd) (h : Int) : Nat -> Nat
 | 0 => 0
 | v + 1 => sizeN ns h v + topsN ns v (levF ns h v)
theorem addN_nodup {acc : List Int} (h : acc.Nodup) (x : Int) : (addN acc x).Nodup := by
 unfold addN
 split
 ·exact h
 ·rename_i hx
  rw [List.nodup_append]
  exact ⟨h, by simp, fun a ha b hb e => by rw [List.mem_singleton] at hb; subst hb; subst e; exact hx ha⟩
theorem mem_addN {acc : List Int} {x y : Int} : y ∈ addN acc x ↔ y ∈ acc \/ y = x := by
 unfold addN
 split
 ·rename_i hx
  exact ⟨.inl, fun h => h.elim id (fun e => e ▸ hx)⟩
 ·simp
theorem fold_nodup : ∀ {l acc : List Int}, acc.Nodup -> (l.foldl addN acc).Nodup
 | [], _, h => h
 | x :: l, _, h => fold_nodup (l := l) (addN_nodup h x)
theorem mem_fold {y : Int} : ∀ {l acc : List Int}, y ∈ l.foldl addN acc ↔ y ∈ acc \/ y ∈ l
 | [], acc => by simp
 | x :: l, acc => by
  rw [List.foldl_cons, mem_fold (l := l), mem_addN, List.mem_cons, or_assoc]
theorem mem_next {ns : List Nd} {v : Nat} {l : List Int} {y : Int} : y ∈ nextF ns v l ↔ ∃ x ∈ l, y = loS ns x v \/ y = hiS ns x v := by
 unfold nextF
 rw [mem_fold]
 simp
section
variable {ns : List Nd} {h : Int} {vars : Nat}
theorem lev_nodup (ns : List Nd) (h : Int) : ∀ v, (levF ns h v).Nodup
 | 0 => by simp [levF]
 | v + 1 => fold_nodup List.nodup_nil
theorem lev_ok (hr : Ranked ns) (hh : hasB ns h = true) : ∀ (v : Nat), v <= 24 -> ∀ x ∈ levF ns h v, hasB ns x = true /\ (v : Int) <= topOf ns x
 | 0, _, x, hx => by
  rw [levF, List.mem_singleton] at hx; subst hx
  exact ⟨hh, by have := (topOf_le hr x).1; omega⟩
 | v + 1, hv, x, hx => by
  rw [levF, mem_next] at hx
  obtain ⟨y, hy, e⟩ := hx
  obtain ⟨h1, h2⟩ := lev_ok hr hh v (by omega) y hy
  rcases e with rfl | rfl
  ·have := loS_has hr (v := (v : Int)) (by omega) h1
   exact ⟨this.1, by have := this.2.1 h2; omega⟩
  ·have := hiS_has hr (v := (v : Int)) (by omega) h1
   exact ⟨this.1, by have := this.2.1 h2; omega⟩
theorem lev_stay {x : Int} {s : Nat} (hx : x ∈ levF ns h s) : ∀ (k : Nat), ((s + k : Nat) : Int) <= topOf ns x -> x ∈ levF ns h (s + k)
 | 0, _ => hx
 | k + 1, ht => by
  have ih := lev_stay hx k (by omega)
  rw [show s + (k + 1) = (s + k) + 1 by omega, levF, mem_next]
  refine ⟨x, ih, .inl ?_⟩
  unfold loS
  rw [if_neg (by omega)]
theorem mark_in (hr : Ranked ns) {P : Int -> Prop} (hc : ∀ x, P x -> topOf ns x ≠ 24 -> P (nd ns (pl x)).l /\ P (nd ns (pl x)).h) : ∀ (d : Nat) (h : Int) (m : List Bool), m.length = ns.length -> P h -> (∀ i, mk m i = true -> P (2 + (i : Int))) -> ∀ i, mk (markF d ns h m) i = true -> P (2 + (i : Int))
 | 0, _, _, _, _, hm => hm
 | d + 1, h, m, hl, hp, hm => by
  unfold markF
  split
  ·exact hm
  ·rename_i hn
   have ht := (not_or.1 hn).1
   obtain ⟨b1, b2, b3⟩ := topOf_node ht
   have hk := hc h hp ht
   refine mark_in hr hc d _ _ (by rw [markF_length, List.length_set, hl]) hk.2 (mark_in hr hc d _ _ (by rw [List.length_set, hl]) hk.1 ?_)
   intro i hi
   rw [mk_set _ _ _ (by omega)] at hi
   by_cases e : i = (h - 2).toNat
   ·rw [show (2 + (i : Int)) = h by omega]; exact hp
   ·rw [decide_eq_false e, Bool.false_or] at hi; exact hm i hi
theorem mark_lev (hg : Good vars ns) (_hh : hasB ns h = true) (h24 : vars <= 24) {i : Nat} (hm : mk (marksOf ns [h]) i = true) : (2 + (i : Int)) ∈ levF ns h (nd ns i).v.toNat /\ (nd ns i).v.toNat < vars /\ 0 <= (nd ns i).v /\ i < ns.length := by
 have hr := hg.ranked
 have hlt : i < ns.length := by
  have := marksOf_length ns [h]
  by_cases c : i < ns.length
  ·exact c
  ·unfold mk at hm
   rw [List.getD_eq_getElem?_getD, List.getElem?_eq_none (by omega)] at hm
   simp at hm
 have hv24 := marksOf_real hr [h] i hm
 have hv0 := (hr.v0 i hlt).1
 have hvv := hg.vars i hlt hv24
 have hP := mark_in hr (P := fun x => ∃ s : Nat, s <= vars /\ (s : Int) <= topOf ns x /\ x ∈ levF ns h s) (fun x ⟨s, h1, h2, h3⟩ ht => by
  obtain ⟨m1, m2, m3, m4⟩ := node_at ht
  have htl := top_lt hr ht
  have h0 := (topOf_le hr x).1
  have htv := hg.vars _ m2 (by omega)
  obtain ⟨t, hte⟩ : ∃ t : Nat, topOf ns x = (t : Int) := ⟨(topOf ns x).toNat, by omega⟩
  have hst := lev_stay h3 (t - s) (by omega)
  rw [show s + (t - s) = t by omega] at hst
  have hk := kids hr ht
  refine ⟨⟨t + 1, by omega, by omega, ?_⟩, ⟨t + 1, by omega, by omega, ?_⟩⟩
  ·rw [levF, mem_next]
   exact ⟨x, hst, .inl (by unfold loS; rw [if_pos hte])⟩
  ·rw [levF, mem_next]
   exact ⟨x, hst, .inr (by unfold hiS; rw [if_pos hte])⟩) 24 h (List.replicate ns.length false) (by simp) ⟨0, by omega, by have := (topOf_le hr h).1; omega, by simp [levF]⟩ (fun i hi => by rw [mk_none] at hi; cases hi) i hm
 obtain ⟨s, h1, h2, h3⟩ := hP
 rw [topOf_at hlt] at h2
 have hst := lev_stay h3 ((nd ns i).v.toNat - s) (by rw [topOf_at hlt]; omega)
 rw [show s + ((nd ns i).v.toNat - s) = (nd ns i).v.toNat by omega] at hst
 exact ⟨hst, by omega, hv0, hlt⟩
theorem lev_mark (hg : Good vars ns) (hh : hasB ns h = true) (h24 : vars <= 24) : ∀ (v : Nat), v <= vars -> ∀ x ∈ levF ns h v, MarkedOr ns (marksOf ns [h]) x
 | 0, _, x, hx => by
  rw [levF, List.mem_singleton] at hx; subst hx
  exact marks_top hg.ranked x
 | v + 1, hv, x, hx => by
  rw [levF, mem_next] at hx
  obtain ⟨y, hy, e⟩ := hx
  have ih := lev_mark hg hh h24 v (by omega) y hy
  have kid : topOf ns y = (v : Int) -> MarkedOr ns (marksOf ns [h]) (nd ns (pl y)).l /\ MarkedOr ns (marksOf ns [h]) (nd ns (pl y)).h := fun hte => by
   have ht : topOf ns y ≠ 24 := by omega
   obtain ⟨m1, m2, m3, m4⟩ := node_at ht
   exact marksOf_closed hg.ranked [h] _ m2 (ih.resolve_left ht)
  by_cases hte : topOf ns y = (v : Int)
  ·rcases e with rfl | rfl
   ·unfold loS; rw [if_pos hte]; exact (kid hte).1
   ·unfold hiS; rw [if_pos hte]; exact (kid hte).2
  ·rcases e with rfl | rfl
   ·unfold loS; rw [if_neg hte]; exact ih
   ·unfold hiS; rw [if_neg hte]; exact ih
theorem filter_split {α : Type} (p q r : α -> Bool) (h : ∀ x, r x = (p x || q x)) (hd : ∀ x, p x = true -> q x = false) : ∀ l : List α, (l.filter r).length = (l.filter p).length + (l.filter q).length := by
 intro l
 induction l with
 | nil => rfl
 | cons x l ih =>
  rw [List.filter_cons, List.filter_cons, List.filter_cons, h x]
  cases hp : p x with
  | true => rw [hd x hp]; simp [ih]; omega
  | false => cases hq : q x with
   | true => simp [ih]; omega
   | false => simp [ih]
theorem size_is (hg : Good vars ns) (hh : hasB ns h = true) (h24 : vars <= 24) : sizeN ns h vars = (taken (swept ns (marksOf ns [h]))).length := by
 have hr := hg.ranked
 have hT : taken (swept ns (marksOf ns [h])) = (List.range ns.length).filter fun i => mk (marksOf ns [h]) i := by
  unfold taken
  rw [swept_length]
  refine List.filter_congr fun i hi => ?_
  have hi' := List.mem_range.1 hi
  rw [swept_at ns _ i hi']
  by_cases c : mk (marksOf ns [h]) i = true
  ·rw [if_pos c, c]; simp [marksOf_real hr [h] i c]
  ·rw [if_neg c]; simp [c]
 rw [hT]
 have key : ∀ v, v <= vars -> sizeN ns h v = (((List.range ns.length).filter fun i => mk (marksOf ns [h]) i).filter fun i => decide ((nd ns i).v < (v : Int))).length := by
  intro v
  induction v with
  | zero =>
   intro _
   symm
   rw [sizeN, List.length_eq_zero_iff, List.filter_eq_nil_iff]
   intro i hi
   have hm := (List.mem_filter.1 hi).2
   have := (mark_lev hg hh h24 hm).2.2.1
   simp; omega
  | succ v ih =>
   intro hv
   have hsp := filter_split (fun i => decide ((nd ns i).v < (v : Int))) (fun i => decide ((nd ns i).v = (v : Int))) (fun i => decide ((nd ns i).v < ((v + 1 : Nat) : Int))) (fun i => by
    rw [<- Bool.decide_or]; congr 1; exact propext ⟨fun q => by omega, fun q => by omega⟩) (fun i q => by have := of_decide_eq_true q; exact decide_eq_false (by omega)) ((List.range ns.length).filter fun i => mk (marksOf ns [h]) i)
   rw [sizeN, ih (by omega), hsp]
   congr 1
   unfold topsN
   have hp : (((List.range ns.length).filter fun i => mk (marksOf ns [h]) i).filter fun i => decide ((nd ns i).v = (v : Int))).Perm (((levF ns h v).filter fun x => decide (topOf ns x = (v : Int))).map pl) := by
    refine (List.perm_ext_iff_of_nodup ((List.nodup_range.filter _).filter _) ?_).2 fun i => ?_
    ·refine List.Pairwise.map _ (fun a b => ?_) (List.Pairwise.and_mem.1 ((lev_nodup ns h v).filter _))
     rintro ⟨ha, hb, hne⟩ e
     have h1 := of_decide_eq_true (List.mem_filter.1 ha).2
     have h2 := of_decide_eq_true (List.mem_filter.1 hb).2
     have m1 := (node_at (ns := ns) (h := a) (by omega)).2.2.2
     have m2 := (node_at (ns := ns) (h := b) (by omega)).2.2.2
     exact hne (by omega)
    ·rw [List.mem_map]
     constructor
     ·intro hi
      obtain ⟨hi1, hi2⟩ := List.mem_filter.1 hi
      have hm := (List.mem_filter.1 hi1).2
      obtain ⟨q1, q2, q3, q4⟩ := mark_lev hg hh h24 hm
      have hv2 := of_decide_eq_true hi2
      refine ⟨2 + (i : Int), List.mem_filter.2 ⟨by rw [show (nd ns i).v.toNat = v by omega] at q1; exact q1, ?_⟩, by unfold pl; omega⟩
      rw [topOf_at q4]; exact hi2
     ·rintro ⟨x, hx, rfl⟩
      obtain ⟨hx1, hx2⟩ := List.mem_filter.1 hx
      have hv2 := of_decide_eq_true hx2
      have ht : topOf ns x ≠ 24 := by omega
      obtain ⟨m1, m2, m3, m4⟩ := node_at ht
      have hmk := (lev_mark hg hh h24 v (by omega) x hx1).resolve_left ht
      exact List.mem_filter.2 ⟨List.mem_filter.2 ⟨List.mem_range.2 m2, hmk⟩, by rw [<- m3]; exact hx2⟩
   rw [hp.length_eq, List.length_map]
 rw [key vars (Nat.le_refl _)]
 congr 1
 rw [List.filter_eq_self]
 intro i hi
 have hm := (List.mem_filter.1 hi).2
 obtain ⟨q1, q2, q3, q4⟩ := mark_lev hg hh h24 hm
 simp; omega
end
end
section
open Go.ChangeShapes Go.WideShapes Go.ChangeAt Go.RowKit Go.Deep
def Quad.Ok (q : Quad) : Prop := I64 q.a /\ I64 q.b /\ I64 q.c /\ I64 q.d
def qd (xs : List Quad) (i : Nat) : Quad := xs.getD i ⟨0, 0, 0, 0⟩
structure QuadAt (w : World) (ad : Addr) (i : Nat) (q : Quad) : Prop where
 lt : ad.block < w.heap.size
 c0 : w.cell? (ad.add (i * 4)) = some (.int .i64 q.a)
 c1 : w.cell? ⟨(ad.add (i * 4)).block, (ad.add (i * 4)).off + 1, none⟩ = some (.int .i64 q.b)
 c2 : w.cell? ⟨(ad.add (i * 4)).block, (ad.add (i * 4)).off + 2, none⟩ = some (.int .i64 q.c)
 c3 : w.cell? ⟨(ad.add (i * 4)).block, (ad.add (i * 4)).off + 3, none⟩ = some (.int .i64 q.d)
 ok : q.Ok
def ArgQuads (w : World) (v : Value) (xs : List Quad) : Prop :=
 ∃ a cap, v = .slice a xs.length cap /\ ∀ i, i < xs.length -> ∃ ad, a = some ad /\ QuadAt w ad i (qd xs i)
theorem addr_block (a : Addr) (i : Nat) : (a.add i).block = a.block := by unfold Addr.add; split <;> rfl
theorem addr_more (a : Addr) (i j : Nat) (h : j ≠ 0) : a.add (i + j) = ⟨(a.add i).block, (a.add i).off + j, none⟩ := by
 unfold Addr.add
 rw [if_neg (by omega)]
 by_cases h0 : i = 0
 ·simp [h0]
 ·simp [h0, Nat.add_assoc]
theorem QuadAt.kept {S : Nat -> Prop} {w w' : World} {ad : Addr} {i : Nat} {q : Quad} (h : QuadAt w ad i q) (hk : Kept S w w') (hn : ¬ S ad.block) : QuadAt w' ad i q :=
 ⟨Nat.lt_of_lt_of_le h.lt hk.size, (hk.cell (by rw [addr_block]; exact h.lt) (by rw [addr_block]; exact hn)).trans h.c0, (hk.cell (by show (ad.add (i * 4)).block < _; rw [addr_block]; exact h.lt) (by show ¬ S (ad.add (i * 4)).block; rw [addr_block]; exact hn)).trans h.c1, (hk.cell (by show (ad.add (i * 4)).block < _; rw [addr_block]; exact h.lt) (by show ¬ S (ad.add (i * 4)).block; rw [addr_block]; exact hn)).trans h.c2, (hk.cell (by show (ad.add (i * 4)).block < _; rw [addr_block]; exact h.lt) (by show ¬ S (ad.add (i * 4)).block; rw [addr_block]; exact hn)).trans h.c3, h.ok⟩
theorem QuadAt.below {B : Nat} {w w' : World} {ad : Addr} {i : Nat} {q : Quad} (h : QuadAt w ad i q) (hb : Below B w w') (hB : ad.block < B) : QuadAt w' ad i q :=
 ⟨Nat.lt_of_lt_of_le h.lt hb.size, (hb.cell (by rw [addr_block]; exact hB)).trans h.c0, (hb.cell (by show (ad.add (i * 4)).block < _; rw [addr_block]; exact hB)).trans h.c1, (hb.cell (by show (ad.add (i * 4)).block < _; rw [addr_block]; exact hB)).trans h.c2, (hb.cell (by show (ad.add (i * 4)).block < _; rw [addr_block]; exact hB)).trans h.c3, h.ok⟩
theorem of_wf {x : Int} (h : (Lit.int .i64 x).wf = true) : I64 x := by
 simp [Lit.wf, IntKind.min, IntKind.max, IntKind.signed, IntKind.bits] at h
 exact ⟨by omega, by omega⟩
theorem cellsQuad : Tryz.prog.cellsOf 79 = 4 := by kernel_rfl
theorem argQuads {H : Type} {enc : TypeId × Value -> H} {W : World} {a0 : Option Addr} {len cap : Nat} {d : DataW H} {p : List MemPlace} (h : DataW.Trod enc Tryz.prog W 0 (fun _ => true) true 22 (.slice a0 len cap) d p) : ∃ xs : List Quad, ArgQuads W (.slice a0 len cap) xs /\ xs.length <= 9223372036854775807 := by
 obtain ⟨fuel, hf⟩ := h
 rcases open_slice Tryz.underlying22 hf with ⟨hcs, -⟩ | ⟨a, len', cap', m, n, D, Pl, hcs, _, hl, hm, hmm, -, hx⟩
 ·simp [Value.cells] at hcs
  obtain ⟨rfl, rfl, rfl⟩ := hcs
  exact ⟨[], ⟨none, 0, rfl, fun i hi => by simp at hi⟩, by simp⟩
 ·simp [Value.cells] at hcs
  obtain ⟨rfl, rfl, rfl⟩ := hcs
  simp only [if_true] at hmm
  subst hmm
  unfold maxLen at hm
  have each : ∀ i, i < m -> ∃ q : Quad, QuadAt W a i q := by
   intro i hi
   obtain ⟨cs', h1, h2⟩ := hx i hi
   rw [cellsQuad] at h1
   obtain ⟨_, hlen, hcell⟩ := World.cells?_some h1
   obtain ⟨y0, y1, y2, y3, k, -, hl4, g0, g1, g2, g3⟩ := Go.Joins.trod_struct4 Tryz.underlying79 h2
   match cs', hlen with
   | [v0, v1, v2, v3], _ =>
    simp [cellsInt] at g0 g1 g2 g3
    obtain ⟨z0, e0, -, w0⟩ := DataW.trod_int Tryz.underlying3 g0
    obtain ⟨z1, e1, -, w1⟩ := DataW.trod_int Tryz.underlying3 g1
    obtain ⟨z2, e2, -, w2⟩ := DataW.trod_int Tryz.underlying3 g2
    obtain ⟨z3, e3, -, w3⟩ := DataW.trod_int Tryz.underlying3 g3
    simp at e0 e1 e2 e3
    subst e0 e1 e2 e3
    have c0 := hcell 0 (by omega)
    have c1 := hcell 1 (by omega)
    have c2 := hcell 2 (by omega)
    have c3 := hcell 3 (by omega)
    rw [add_add] at c0 c1 c2 c3
    have hb := World.block_lt_of_cell? _ _ c0
    rw [addr_block] at hb
    exact ⟨⟨z0, z1, z2, z3⟩, hb, by simpa using c0, by rw [<- addr_more _ _ _ (by omega)]; exact c1, by rw [<- addr_more _ _ _ (by omega)]; exact c2, by rw [<- addr_more _ _ _ (by omega)]; exact c3, of_wf w0, of_wf w1, of_wf w2, of_wf w3⟩
  obtain ⟨q, hq⟩ := choose_lt (fun i hi => each i hi)
  have hlen : ((List.range len).map q).length = len := by simp
  refine ⟨(List.range len).map q, ⟨some a, m, by rw [hlen], fun i hi => ⟨a, rfl, ?_⟩⟩, by omega⟩
  rw [hlen] at hi
  have e : qd ((List.range len).map q) i = q i := by
   unfold qd; simp [List.getD_eq_getElem?_getD, hi]
  rw [e]; exact hq i (by omega)
end
end Go.Proofs.YtcjjekhecjmaeaaGreatDoor
