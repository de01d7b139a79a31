/- What a function makes of handles: of three ends at once, else by the least variable. -/
import Derived.Test.YtcjjekhecjmaeaaGreatDoorBdNode
namespace Go.Proofs.YtcjjekhecjmaeaaGreatDoor
open Go.RowKit Go.Maps
def iteK (k : Nd) : Option Int := if k.v = 1 \/ k.l = k.h then some k.l else if k.v = 0 then some k.h else if k.l = 1 /\ k.h = 0 then some k.v else none
def xorK (k : Nd) : Option Int := if k.v = k.l then some 0 else if k.v = 0 then some k.l else if k.l = 0 then some k.v else none
def knownF (op : Bool) (k : Nd) : Option Int := if op = true then iteK k else xorK k
def opS (op a b c : Bool) : Bool := if op = true then (if a = true then b else c) else (a != b)
def minT (ns : List Nd) (k : Nd) : Int := min (min (topOf ns k.v) (topOf ns k.l)) (topOf ns k.h)
def loK (ns : List Nd) (k : Nd) (v : Int) : Nd := ⟨loS ns k.v v, loS ns k.l v, loS ns k.h v⟩
def hiK (ns : List Nd) (k : Nd) (v : Int) : Nd := ⟨hiS ns k.v v, hiS ns k.l v, hiS ns k.h v⟩
def look {α : Type} [DecidableEq α] (m : List (α × Int)) (k : α) : Option Int := (m.find? fun p => decide (p.1 = k)).map Prod.snd
def memoPut {α : Type} [DecidableEq α] (m : List (α × Int)) (k : α) (h : Int) : List (α × Int) := if k ∈ m.map Prod.fst then m.map (fun q => if q.1 = k then (q.1, h) else q) else m ++ [(k, h)]
def makesF : Nat -> Bool -> List Nd -> List (Nd × Int) -> Nd -> List Nd × List (Nd × Int) × Int
  | 0, op, ns, m, k => (ns, m, (knownF op k).getD 0)
  | d + 1, op, ns, m, k =>
    match knownF op k with
    | some h => (ns, m, h)
    | none =>
      match look m k with
      | some h => (ns, m, h)
      | none =>
        let r1 := makesF d op ns m (loK ns k (minT ns k))
        let r2 := makesF d op r1.1 r1.2.1 (hiK ns k (minT ns k))
        let r3 := nodeF r2.1 (minT ns k) r1.2.2 r2.2.2
        (r3.1, memoPut r2.2.1 k r3.2, r3.2)
section
variable {α : Type} [DecidableEq α] {m : List (α × Int)} {k : α}
theorem look_mem {h : Int} (e : look m k = some h) : (k, h) ∈ m := by
  unfold look at e
  obtain ⟨p, hp, rfl⟩ := Option.map_eq_some_iff.1 e
  have h1 := List.find?_some hp
  have h2 := List.mem_of_find?_eq_some hp
  simp at h1
  subst h1
  exact h2
theorem look_no (e : look m k = none) : k ∉ m.map Prod.fst := by
  unfold look at e
  rw [Option.map_eq_none_iff, List.find?_eq_none] at e
  intro h
  obtain ⟨p, hp, rfl⟩ := List.mem_map.1 h
  exact e p hp (by simp)
theorem memoPut_mem {h : Int} {p : α × Int} (hp : p ∈ memoPut m k h) : p = (k, h) \/ p ∈ m := by
  unfold memoPut at hp
  split at hp
  · obtain ⟨q, hq, rfl⟩ := List.mem_map.1 hp
    by_cases e : q.1 = k
    · rw [if_pos e]; exact .inl (by rw [e])
    · rw [if_neg e]; exact .inr hq
  · rcases List.mem_append.1 hp with hp | hp
    · exact .inr hp
    · rw [List.mem_singleton] at hp; exact .inl hp
theorem memoPut_len (h : Int) : (memoPut m k h).length <= m.length + 1 := by
  unfold memoPut
  split
  · simp
  · simp
end
structure Has3 (ns : List Nd) (k : Nd) : Prop where
  a : hasB ns k.v = true
  b : hasB ns k.l = true
  c : hasB ns k.h = true
structure MemoOk (op : Bool) (ns : List Nd) (m : List (Nd × Int)) : Prop where
  keys : ∀ p ∈ m, Has3 ns p.1
  has : ∀ p ∈ m, hasB ns p.2 = true
  top : ∀ p ∈ m, minT ns p.1 <= topOf ns p.2
  sem : ∀ p ∈ m, ∀ f, sem ns p.2 f = opS op (sem ns p.1.v f) (sem ns p.1.l f) (sem ns p.1.h f)
section
variable {ns : List Nd} {op : Bool} {m : List (Nd × Int)} {k : Nd} {vars : Nat}
theorem minT_le (ns : List Nd) (k : Nd) : minT ns k <= topOf ns k.v /\ minT ns k <= topOf ns k.l /\ minT ns k <= topOf ns k.h := by unfold minT; omega
theorem minT_ge {x : Int} (h1 : x <= topOf ns k.v) (h2 : x <= topOf ns k.l) (h3 : x <= topOf ns k.h) : x <= minT ns k := by unfold minT; omega
theorem minT_bd (hr : Ranked ns) (k : Nd) : 0 <= minT ns k /\ minT ns k <= 24 := by
  have h1 := topOf_le hr k.v
  have h2 := topOf_le hr k.l
  have h3 := topOf_le hr k.h
  unfold minT; omega
theorem Has3.ext {ns' : List Nd} (h : Has3 ns k) (he : Ext ns ns') : Has3 ns' k := ⟨he.has _ h.a, he.has _ h.b, he.has _ h.c⟩
theorem minT_ext {ns' : List Nd} (h : Has3 ns k) (he : Ext ns ns') : minT ns' k = minT ns k := by unfold minT; rw [he.top _ h.a, he.top _ h.b, he.top _ h.c]
theorem MemoOk.ext {ns' : List Nd} (hr : Ranked ns) (h : MemoOk op ns m) (he : Ext ns ns') : MemoOk op ns' m :=
  ⟨fun p hp => (h.keys p hp).ext he, fun p hp => he.has _ (h.has p hp), fun p hp => by rw [minT_ext (h.keys p hp) he, he.top _ (h.has p hp)]; exact h.top p hp,
   fun p hp f => by rw [sem_ext hr he (h.has p hp), sem_ext hr he (h.keys p hp).a, sem_ext hr he (h.keys p hp).b, sem_ext hr he (h.keys p hp).c]; exact h.sem p hp f⟩
theorem end_ge {h : Int} (hh : h = 0 \/ h = 1) : topOf ns h = 24 := by rcases hh with rfl | rfl <;> simp [topOf]
theorem known_ok (hr : Ranked ns) {h : Int} (h3 : Has3 ns k) (e : knownF op k = some h) : hasB ns h = true /\ minT ns k <= topOf ns h /\ ∀ f, sem ns h f = opS op (sem ns k.v f) (sem ns k.l f) (sem ns k.h f) := by
  obtain ⟨m1, m2, m3⟩ := minT_le ns k
  have mb := (minT_bd hr k).2
  unfold knownF at e
  cases op with
  | true =>
    simp only [if_true] at e
    unfold iteK at e
    split at e
    · rename_i c
      cases e
      refine ⟨h3.b, m2, fun f => ?_⟩
      rcases c with c | c
      · rw [c, sem_true]; simp [opS]
      · rw [c]; simp only [opS, if_true]; split <;> rfl
    · split at e
      · rename_i c
        cases e
        refine ⟨h3.c, m3, fun f => ?_⟩
        rw [c, sem_false]; simp [opS]
      · split at e
        · rename_i c
          cases e
          refine ⟨h3.a, m1, fun f => ?_⟩
          rw [c.1, c.2, sem_true, sem_false]
          simp only [opS, if_true]; cases sem ns k.v f <;> rfl
        · cases e
  | false =>
    simp only [Bool.false_eq_true, if_false] at e
    unfold xorK at e
    split at e
    · rename_i c
      cases e
      refine ⟨by simp [hasB], by rw [end_ge (.inl rfl)]; exact mb, fun f => ?_⟩
      rw [c, sem_false]; simp [opS]
    · split at e
      · rename_i c
        cases e
        refine ⟨h3.b, m2, fun f => ?_⟩
        rw [c, sem_false]; simp [opS]
      · split at e
        · rename_i c
          cases e
          refine ⟨h3.a, m1, fun f => ?_⟩
          rw [c, sem_false]; simp [opS]
        · cases e
theorem known_none (hr : Ranked ns) (h3 : Has3 ns k) (e : knownF op k = none) : minT ns k < 24 := by
  have tv := topOf_le hr k.v
  have tl := topOf_le hr k.l
  obtain ⟨m1, m2, m3⟩ := minT_le ns k
  unfold knownF at e
  cases op with
  | true =>
    simp only [if_true] at e
    unfold iteK at e
    split at e
    · cases e
    · split at e
      · cases e
      · rename_i c1 c2
        by_cases t : topOf ns k.v = 24
        · rcases end_of h3.a t with h | h
          · exact absurd h c2
          · exact absurd (.inl h) c1
        · omega
  | false =>
    simp only [Bool.false_eq_true, if_false] at e
    unfold xorK at e
    split at e
    · cases e
    · split at e
      · cases e
      · split at e
        · cases e
        · rename_i c1 c2 c3
          by_cases t : topOf ns k.v = 24
          · by_cases u : topOf ns k.l = 24
            · rcases end_of h3.a t with h | h <;> rcases end_of h3.b u with g | g <;> first | exact absurd h c2 | exact absurd g c3 | exact absurd (h.trans g.symm) c1
            · omega
          · omega
def rk (vars : Nat) (ns : List Nd) (k : Nd) : Nat := ((vars : Int) - minT ns k).toNat
structure MakesR (vars : Nat) (op : Bool) (ns : List Nd) (m : List (Nd × Int)) (k : Nd) (r : List Nd × List (Nd × Int) × Int) : Prop where
  good : Good vars r.1
  ext : Ext ns r.1
  memo : MemoOk op r.1 r.2.1
  has : hasB r.1 r.2.2 = true
  sem : ∀ f, sem r.1 r.2.2 f = opS op (sem ns k.v f) (sem ns k.l f) (sem ns k.h f)
  top : minT ns k <= topOf r.1 r.2.2
  cnt : cnt r.1 + 1 <= cnt ns + 2 ^ rk vars ns k
  len : r.1.length + 1 <= ns.length + 2 ^ rk vars ns k
  mlen : r.2.1.length + 1 <= m.length + 2 ^ rk vars ns k
theorem lo_has3 (hr : Ranked ns) (h3 : Has3 ns k) (hv : minT ns k < 24) : Has3 ns (loK ns k (minT ns k)) /\ minT ns k < minT ns (loK ns k (minT ns k)) := by
  obtain ⟨m1, m2, m3⟩ := minT_le ns k
  have a := loS_has hr hv h3.a
  have b := loS_has hr hv h3.b
  have c := loS_has hr hv h3.c
  refine ⟨⟨a.1, b.1, c.1⟩, ?_⟩
  have := minT_ge (ns := ns) (k := loK ns k (minT ns k)) (x := minT ns k + 1) (a.2.1 m1) (b.2.1 m2) (c.2.1 m3)
  omega
theorem hi_has3 (hr : Ranked ns) (h3 : Has3 ns k) (hv : minT ns k < 24) : Has3 ns (hiK ns k (minT ns k)) /\ minT ns k < minT ns (hiK ns k (minT ns k)) := by
  obtain ⟨m1, m2, m3⟩ := minT_le ns k
  have a := hiS_has hr hv h3.a
  have b := hiS_has hr hv h3.b
  have c := hiS_has hr hv h3.c
  refine ⟨⟨a.1, b.1, c.1⟩, ?_⟩
  have := minT_ge (ns := ns) (k := hiK ns k (minT ns k)) (x := minT ns k + 1) (a.2.1 m1) (b.2.1 m2) (c.2.1 m3)
  omega
theorem top_vars (hg : Good vars ns) {h : Int} (ht : topOf ns h ≠ 24) : topOf ns h < (vars : Int) := by
  obtain ⟨h1, h2, h3, -⟩ := node_at ht
  have := top_lt hg.ranked ht
  rw [h3] at this ⊢; exact hg.vars _ h2 this
theorem minT_vars (hg : Good vars ns) (hv : minT ns k < 24) : minT ns k < (vars : Int) := by
  have : minT ns k = topOf ns k.v \/ minT ns k = topOf ns k.l \/ minT ns k = topOf ns k.h := by unfold minT; omega
  rcases this with e | e | e <;> rw [e] at hv ⊢ <;> exact top_vars hg (by omega)
theorem opS_if (op c a b d x y z : Bool) : opS op (if c = true then a else x) (if c = true then b else y) (if c = true then d else z) = if c = true then opS op a b d else opS op x y z := by
  cases c <;> simp
theorem makes_hit (hg : Good vars ns) (hm : MemoOk op ns m) {h : Int} (hh : hasB ns h = true) (ht : minT ns k <= topOf ns h) (hs : ∀ f, Go.Proofs.YtcjjekhecjmaeaaGreatDoor.sem ns h f = opS op (Go.Proofs.YtcjjekhecjmaeaaGreatDoor.sem ns k.v f) (Go.Proofs.YtcjjekhecjmaeaaGreatDoor.sem ns k.l f) (Go.Proofs.YtcjjekhecjmaeaaGreatDoor.sem ns k.h f)) : MakesR vars op ns m k (ns, m, h) := by
  have := Nat.one_le_two_pow (n := rk vars ns k)
  exact ⟨hg, Ext.refl _, hm, hh, hs, ht, by show Go.Proofs.YtcjjekhecjmaeaaGreatDoor.cnt ns + 1 <= _; omega, by show ns.length + 1 <= _; omega, by show m.length + 1 <= _; omega⟩
theorem makes_ok : ∀ (d : Nat) (ns : List Nd) (m : List (Nd × Int)) (k : Nd), Good vars ns -> MemoOk op ns m -> Has3 ns k -> 24 <= minT ns k + d -> ns.length + 2 ^ rk vars ns k <= 900000 -> MakesR vars op ns m k (makesF d op ns m k)
  | 0, ns, m, k, hg, hm, h3, hd, _ => by
    unfold makesF
    cases e : knownF op k with
    | none => have := known_none hg.ranked h3 e; omega
    | some h =>
      obtain ⟨a, b, c⟩ := known_ok hg.ranked h3 e
      exact makes_hit hg hm a b c
  | d + 1, ns, m, k, hg, hm, h3, hd, hl => by
    unfold makesF
    cases e : knownF op k with
    | some h =>
      obtain ⟨a, b, c⟩ := known_ok hg.ranked h3 e
      exact makes_hit hg hm a b c
    | none =>
      cases e2 : look m k with
      | some h =>
        have hp := look_mem e2
        exact makes_hit hg hm (hm.has _ hp) (hm.top _ hp) (hm.sem _ hp)
      | none =>
        have hr := hg.ranked
        have hv := known_none hr h3 e
        have hvv := minT_vars hg hv
        have hv0 := (minT_bd hr k).1
        obtain ⟨l3, lt⟩ := lo_has3 hr h3 hv
        obtain ⟨g3, gt⟩ := hi_has3 hr h3 hv
        have hpow : 2 ^ rk vars ns k = 2 ^ (rk vars ns k - 1) + 2 ^ (rk vars ns k - 1) := by
          have : 1 <= rk vars ns k := by unfold rk; omega
          obtain ⟨q, hq⟩ : ∃ q, rk vars ns k = q + 1 := ⟨rk vars ns k - 1, by omega⟩
          rw [hq, Nat.add_sub_cancel, Nat.pow_succ]; omega
        have pge := Nat.one_le_two_pow (n := rk vars ns k - 1)
        have p1 : 2 ^ rk vars ns (loK ns k (minT ns k)) <= 2 ^ (rk vars ns k - 1) := Nat.pow_le_pow_right (by omega) (by unfold rk; omega)
        have i1 := makes_ok d ns m (loK ns k (minT ns k)) hg hm l3 (by omega) (by omega)
        show MakesR vars op ns m k (_, _, _)
        generalize makesF d op ns m (loK ns k (minT ns k)) = r1 at *
        have g3' := g3.ext i1.ext
        have gm := minT_ext g3 i1.ext
        have p2 : 2 ^ rk vars r1.1 (hiK ns k (minT ns k)) <= 2 ^ (rk vars ns k - 1) := Nat.pow_le_pow_right (by omega) (by unfold rk; rw [gm]; omega)
        have l1 := i1.len
        have c1 := i1.cnt
        have m1 := i1.mlen
        have i2 := makes_ok d r1.1 r1.2.1 (hiK ns k (minT ns k)) i1.good i1.memo g3' (by rw [gm]; omega) (by omega)
        generalize makesF d op r1.1 r1.2.1 (hiK ns k (minT ns k)) = r2 at *
        have l2 := i2.len
        have c2 := i2.cnt
        have m2 := i2.mlen
        have h1' := i2.ext.has _ i1.has
        have t1' : topOf r2.1 r1.2.2 = topOf r1.1 r1.2.2 := i2.ext.top _ i1.has
        have i3 := nodeF_ok i2.good (v := minT ns k) (l := r1.2.2) (h := r2.2.2) (by omega) hv0 hv hvv h1' i2.has (by rw [t1']; have := i1.top; omega) (by have := i2.top; rw [gm] at this; omega)
        generalize nodeF r2.1 (minT ns k) r1.2.2 r2.2.2 = r3 at *
        have x13 := (i1.ext.trans i2.ext).trans i3.ext
        have c3 := i3.cnt
        have l3' := i3.len
        have hsem : ∀ f, Go.Proofs.YtcjjekhecjmaeaaGreatDoor.sem r3.1 r3.2 f = opS op (Go.Proofs.YtcjjekhecjmaeaaGreatDoor.sem ns k.v f) (Go.Proofs.YtcjjekhecjmaeaaGreatDoor.sem ns k.l f) (Go.Proofs.YtcjjekhecjmaeaaGreatDoor.sem ns k.h f) := fun f => by
          rw [i3.sem f, sem_ext i1.good.ranked i2.ext i1.has, i1.sem f, i2.sem f, sem_ext hr i1.ext g3.a, sem_ext hr i1.ext g3.b, sem_ext hr i1.ext g3.c,
            sem_sides (h := k.v) hr hv f, sem_sides (h := k.l) hr hv f, sem_sides (h := k.h) hr hv f, opS_if]
          rfl
        have mp := memoPut_len (m := r2.2.1) (k := k) r3.2
        have mo := i2.memo.ext i2.good.ranked i3.ext
        have htop : minT ns k <= topOf r3.1 r3.2 := i3.top
        have h3x := h3.ext x13
        have mk := minT_ext h3 x13
        refine ⟨i3.good, x13, ⟨fun p hp => ?_, fun p hp => ?_, fun p hp => ?_, fun p hp f => ?_⟩, i3.has, hsem, htop, by show Go.Proofs.YtcjjekhecjmaeaaGreatDoor.cnt r3.1 + 1 <= _; omega, by show r3.1.length + 1 <= _; omega, by show (memoPut r2.2.1 k r3.2).length + 1 <= _; omega⟩
        · rcases memoPut_mem hp with rfl | hp
          · exact h3x
          · exact mo.keys p hp
        · rcases memoPut_mem hp with rfl | hp
          · exact i3.has
          · exact mo.has p hp
        · rcases memoPut_mem hp with rfl | hp
          · show minT r3.1 k <= _; rw [mk]; exact htop
          · exact mo.top p hp
        · rcases memoPut_mem hp with rfl | hp
          · show Go.Proofs.YtcjjekhecjmaeaaGreatDoor.sem r3.1 r3.2 f = _
            rw [hsem f, sem_ext hr x13 h3.a, sem_ext hr x13 h3.b, sem_ext hr x13 h3.c]
          · exact mo.sem p hp f
end
end Go.Proofs.YtcjjekhecjmaeaaGreatDoor
