/- A diagram in which no node of a variable is left: what stands instead of it is told by where it led. -/
import Derived.Test.YtcjjekhecjmaeaaGreatDoorBdMakes
namespace Go.Proofs.YtcjjekhecjmaeaaGreatDoor
open Go.RowKit Go.Maps
abbrev Join : Type := List Nd -> List (Nd × Int) -> Int -> Int -> List Nd × List (Nd × Int) × Int
abbrev JoinedR : Type := List Nd × List (Nd × Int) × List (Int × Int) × Int
def joinedF : Nat -> Join -> List Nd -> List (Nd × Int) -> List (Int × Int) -> Int -> Int -> JoinedR
  | 0, _, ns, m, dn, h, _ => (ns, m, dn, h)
  | d + 1, J, ns, m, dn, h, v =>
    if v < topOf ns h then (ns, m, dn, h)
    else if topOf ns h = v then ((J ns m (nd ns (pl h)).l (nd ns (pl h)).h).1, (J ns m (nd ns (pl h)).l (nd ns (pl h)).h).2.1, dn, (J ns m (nd ns (pl h)).l (nd ns (pl h)).h).2.2)
    else match look dn h with
    | some x => (ns, m, dn, x)
    | none =>
      let r1 := joinedF d J ns m dn (nd ns (pl h)).l v
      let r2 := joinedF d J r1.1 r1.2.1 r1.2.2.1 (nd ns (pl h)).h v
      let r3 := nodeF r2.1 (topOf ns h) r1.2.2.2 r2.2.2.2
      (r3.1, r2.2.1, memoPut r2.2.2.1 h r3.2, r3.2)
structure JoinOk (vars : Nat) (v : Int) (jf : Bool -> Bool -> Bool) (P : List Nd -> List (Nd × Int) -> Prop) (J : Join) : Prop where
  idem : ∀ x, jf x x = x
  ext : ∀ ns ns' m, Ranked ns -> P ns m -> Ext ns ns' -> P ns' m
  good : ∀ ns m l h, Good vars ns -> P ns m -> hasB ns l = true -> hasB ns h = true -> v < topOf ns l -> v < topOf ns h -> ns.length + 2 ^ ((vars : Int) - v - 1).toNat <= 900000 ->
    Good vars (J ns m l h).1 /\ Ext ns (J ns m l h).1 /\ P (J ns m l h).1 (J ns m l h).2.1 /\ hasB (J ns m l h).1 (J ns m l h).2.2 = true /\ v < topOf (J ns m l h).1 (J ns m l h).2.2 /\
    (∀ f, sem (J ns m l h).1 (J ns m l h).2.2 f = jf (sem ns l f) (sem ns h f)) /\ (J ns m l h).1.length + 1 <= ns.length + 2 ^ ((vars : Int) - v - 1).toNat /\ (J ns m l h).2.1.length + 1 <= m.length + 2 ^ ((vars : Int) - v - 1).toNat
def quant (jf : Bool -> Bool -> Bool) (ns : List Nd) (h : Int) (v : Nat) (f : Nat -> Bool) : Bool := jf (sem ns h (turn f v false)) (sem ns h (turn f v true))
structure DoneOk (jf : Bool -> Bool -> Bool) (v : Int) (ns : List Nd) (dn : List (Int × Int)) : Prop where
  keys : ∀ p ∈ dn, hasB ns p.1 = true
  has : ∀ p ∈ dn, hasB ns p.2 = true
  top : ∀ p ∈ dn, topOf ns p.1 <= topOf ns p.2
  sem : ∀ p ∈ dn, ∀ f, sem ns p.2 f = quant jf ns p.1 v.toNat f
structure JoinedOk (vars : Nat) (v : Int) (jf : Bool -> Bool -> Bool) (P : List Nd -> List (Nd × Int) -> Prop) (ns : List Nd) (m : List (Nd × Int)) (dn : List (Int × Int)) (h : Int) (r : JoinedR) : Prop where
  good : Good vars r.1
  ext : Ext ns r.1
  memo : P r.1 r.2.1
  done : DoneOk jf v r.1 r.2.2.1
  has : hasB r.1 r.2.2.2 = true
  top : topOf ns h <= topOf r.1 r.2.2.2
  sem : ∀ f, sem r.1 r.2.2.2 f = quant jf ns h v.toNat f
  len : r.1.length + 1 <= ns.length + 2 ^ ((vars : Int) - topOf ns h).toNat
  mlen : r.2.1.length + 1 <= m.length + 2 ^ ((vars : Int) - topOf ns h).toNat
  dlen : r.2.2.1.length + 1 <= dn.length + 2 ^ ((vars : Int) - topOf ns h).toNat
section
variable {vars : Nat} {v : Int} {jf : Bool -> Bool -> Bool} {P : List Nd -> List (Nd × Int) -> Prop} {J : Join}
theorem quant_ext {ns ns' : List Nd} (hr : Ranked ns) (he : Ext ns ns') {h : Int} (hh : hasB ns h = true) (w : Nat) (f : Nat -> Bool) : quant jf ns' h w f = quant jf ns h w f := by
  unfold quant; rw [sem_ext hr he hh, sem_ext hr he hh]
theorem DoneOk.ext {ns ns' : List Nd} {dn : List (Int × Int)} (hr : Ranked ns) (h : DoneOk jf v ns dn) (he : Ext ns ns') : DoneOk jf v ns' dn :=
  ⟨fun p hp => he.has _ (h.keys p hp), fun p hp => he.has _ (h.has p hp), fun p hp => by rw [he.top _ (h.keys p hp), he.top _ (h.has p hp)]; exact h.top p hp,
   fun p hp f => by rw [sem_ext hr he (h.has p hp), quant_ext hr he (h.keys p hp)]; exact h.sem p hp f⟩
theorem quant_above (hj : ∀ x, jf x x = x) {ns : List Nd} (hr : Ranked ns) {h : Int} (h0 : 0 <= v) (ht : v < topOf ns h) (f : Nat -> Bool) : sem ns h f = quant jf ns h v.toNat f := by
  unfold quant
  rw [sem_agree hr (f := turn f v.toNat false) (g := f) (fun i hi => turn_ne _ _ (by omega)), sem_agree hr (f := turn f v.toNat true) (g := f) (fun i hi => turn_ne _ _ (by omega)), hj]
theorem joined_ok (hJ : JoinOk vars v jf P J) (hv0 : 0 <= v) (hv : v < 24) : ∀ (d : Nat) (ns : List Nd) (m : List (Nd × Int)) (dn : List (Int × Int)) (h : Int), Good vars ns -> P ns m -> DoneOk jf v ns dn -> hasB ns h = true -> v < topOf ns h + d -> ns.length + 2 ^ ((vars : Int) - topOf ns h).toNat <= 900000 ->
    JoinedOk vars v jf P ns m dn h (joinedF d J ns m dn h v)
  | 0, ns, m, dn, h, hg, hm, hd, hh, ht, _ => by
    have := Nat.one_le_two_pow (n := ((vars : Int) - topOf ns h).toNat)
    exact ⟨hg, Ext.refl _, hm, hd, hh, Int.le_refl _, fun f => quant_above (h := h) (ns := ns) hJ.idem hg.ranked hv0 (by omega) f, by show ns.length + 1 <= _; omega, by show m.length + 1 <= _; omega, by show dn.length + 1 <= _; omega⟩
  | d + 1, ns, m, dn, h, hg, hm, hd, hh, ht, hl => by
    have hr := hg.ranked
    have hone := Nat.one_le_two_pow (n := ((vars : Int) - topOf ns h).toNat)
    unfold joinedF
    by_cases c1 : v < topOf ns h
    · rw [if_pos c1]
      exact ⟨hg, Ext.refl _, hm, hd, hh, Int.le_refl _, fun f => quant_above hJ.idem hr hv0 c1 f, by show ns.length + 1 <= _; omega, by show m.length + 1 <= _; omega, by show dn.length + 1 <= _; omega⟩
    rw [if_neg c1]
    have hn : topOf ns h ≠ 24 := by omega
    have hk := kids hr hn
    have htv := top_vars hg hn
    have ht0 := (topOf_le hr h).1
    by_cases c2 : topOf ns h = v
    · rw [if_pos c2]
      have hp : 2 ^ ((vars : Int) - v - 1).toNat <= 2 ^ ((vars : Int) - topOf ns h).toNat := Nat.pow_le_pow_right (by omega) (by omega)
      obtain ⟨j1, j2, j3, j4, j5, j6, j7, j8⟩ := hJ.good ns m _ _ hg hm hk.2.1 hk.2.2.2 (by omega) (by omega) (by omega)
      generalize J ns m (nd ns (pl h)).l (nd ns (pl h)).h = r at *
      refine ⟨j1, j2, j3, hd.ext hr j2, j4, by show topOf ns h <= topOf r.1 r.2.2; omega, fun f => ?_, by show r.1.length + 1 <= _; omega, by show r.2.1.length + 1 <= _; omega, by show dn.length + 1 <= _; omega⟩
      show sem r.1 r.2.2 f = _
      rw [j6]; unfold quant
      rw [sem_node hr hn, sem_node hr hn, c2, turn_eq, turn_eq, if_neg (by simp), if_pos rfl,
        sem_agree hr (h := (nd ns (pl h)).l) (f := turn f v.toNat false) (g := f) (fun i hi => turn_ne _ _ (by omega)), sem_agree hr (h := (nd ns (pl h)).h) (f := turn f v.toNat true) (g := f) (fun i hi => turn_ne _ _ (by omega))]
    rw [if_neg c2]
    cases e : look dn h with
    | some x =>
      have hp := look_mem e
      exact ⟨hg, Ext.refl _, hm, hd, hd.has _ hp, hd.top _ hp, hd.sem _ hp, by show ns.length + 1 <= _; omega, by show m.length + 1 <= _; omega, by show dn.length + 1 <= _; omega⟩
    | none =>
      have hpow : 2 ^ ((vars : Int) - topOf ns h).toNat = 2 ^ (((vars : Int) - topOf ns h).toNat - 1) + 2 ^ (((vars : Int) - topOf ns h).toNat - 1) := by
        obtain ⟨q, hq⟩ : ∃ q, ((vars : Int) - topOf ns h).toNat = q + 1 := ⟨((vars : Int) - topOf ns h).toNat - 1, by omega⟩
        rw [hq, Nat.add_sub_cancel, Nat.pow_succ]; omega
      have pge := Nat.one_le_two_pow (n := ((vars : Int) - topOf ns h).toNat - 1)
      have p1 : 2 ^ ((vars : Int) - topOf ns (nd ns (pl h)).l).toNat <= 2 ^ (((vars : Int) - topOf ns h).toNat - 1) := Nat.pow_le_pow_right (by omega) (by omega)
      have i1 := joined_ok hJ hv0 hv d ns m dn (nd ns (pl h)).l hg hm hd hk.2.1 (by omega) (by omega)
      show JoinedOk vars v jf P ns m dn h (_, _, _, _)
      generalize joinedF d J ns m dn (nd ns (pl h)).l v = r1 at *
      have th : topOf r1.1 (nd ns (pl h)).h = topOf ns (nd ns (pl h)).h := i1.ext.top _ hk.2.2.2
      have p2 : 2 ^ ((vars : Int) - topOf r1.1 (nd ns (pl h)).h).toNat <= 2 ^ (((vars : Int) - topOf ns h).toNat - 1) := Nat.pow_le_pow_right (by omega) (by rw [th]; omega)
      have l1 := i1.len
      have m1 := i1.mlen
      have d1 := i1.dlen
      have i2 := joined_ok hJ hv0 hv d r1.1 r1.2.1 r1.2.2.1 (nd ns (pl h)).h i1.good i1.memo i1.done (i1.ext.has _ hk.2.2.2) (by rw [th]; omega) (by omega)
      generalize joinedF d J r1.1 r1.2.1 r1.2.2.1 (nd ns (pl h)).h v = r2 at *
      have l2 := i2.len
      have m2 := i2.mlen
      have d2 := i2.dlen
      have h1' := i2.ext.has _ i1.has
      have t1' : topOf r2.1 r1.2.2.2 = topOf r1.1 r1.2.2.2 := i2.ext.top _ i1.has
      have i3 := nodeF_ok i2.good (v := topOf ns h) (l := r1.2.2.2) (h := r2.2.2.2) (by omega) ht0 (by omega) htv h1' i2.has (by rw [t1']; have := i1.top; omega) (by have := i2.top; rw [th] at this; omega)
      generalize nodeF r2.1 (topOf ns h) r1.2.2.2 r2.2.2.2 = r3 at *
      have x13 := (i1.ext.trans i2.ext).trans i3.ext
      have l3 := i3.len
      have hsem : ∀ f, Go.Proofs.YtcjjekhecjmaeaaGreatDoor.sem r3.1 r3.2 f = quant jf ns h v.toNat f := fun f => by
        rw [i3.sem f, sem_ext i1.good.ranked i2.ext i1.has, i1.sem f, i2.sem f, quant_ext hr i1.ext hk.2.2.2]
        unfold quant
        rw [sem_node hr hn (turn f v.toNat false), sem_node hr hn (turn f v.toNat true), turn_ne _ _ (by omega), turn_ne _ _ (by omega)]
        by_cases cf : f (topOf ns h).toNat = true
        · rw [if_pos cf, if_pos cf, if_pos cf]
        · rw [if_neg cf, if_neg cf, if_neg cf]
      have dp := memoPut_len (m := r2.2.2.1) (k := h) r3.2
      have mo := i2.done.ext i2.good.ranked i3.ext
      have htop : topOf ns h <= topOf r3.1 r3.2 := i3.top
      refine ⟨i3.good, x13, hJ.ext _ _ _ i2.good.ranked i2.memo i3.ext, ⟨fun p hp => ?_, fun p hp => ?_, fun p hp => ?_, fun p hp f => ?_⟩, i3.has, htop, hsem, by show r3.1.length + 1 <= _; omega, by show r2.2.1.length + 1 <= _; omega, by show (memoPut r2.2.2.1 h r3.2).length + 1 <= _; omega⟩
      · rcases memoPut_mem hp with rfl | hp
        · exact x13.has _ hh
        · exact mo.keys p hp
      · rcases memoPut_mem hp with rfl | hp
        · exact i3.has
        · exact mo.has p hp
      · rcases memoPut_mem hp with rfl | hp
        · show topOf r3.1 h <= _; rw [x13.top _ hh]; exact htop
        · exact mo.top p hp
      · rcases memoPut_mem hp with rfl | hp
        · show Go.Proofs.YtcjjekhecjmaeaaGreatDoor.sem r3.1 r3.2 f = _
          rw [hsem f, quant_ext hr x13 hh]
        · exact mo.sem p hp f
end
end Go.Proofs.YtcjjekhecjmaeaaGreatDoor
