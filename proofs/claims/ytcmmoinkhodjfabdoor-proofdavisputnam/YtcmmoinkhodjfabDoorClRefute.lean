/- refute. -/
import Derived.Test.YtcmmoinkhodjfabDoorClBack
namespace Go.Proofs.YtcmmoinkhodjfabDoor
open Go.RowKit Go.Deep

/-- As SAt, the two lists of clauses each by itself. -/
structure SG (B : Nat) (w : World) (sb : Nat) (told : List Int) (decs : List (Int × List Int)) (cl pl : List (List Int)) (cV dV pV : Value) : Prop where
  blk : Blk w sb 75 ([cV] ++ tvl told ++ [dV, pV]).toArray
  Bsb : B ≤ sb
  crow : ∃ cs, w.ownsRow B 23 1 cV cl.length cs ∧ ClsK B w cs cl
  prow : ∃ ps, w.ownsRow B 23 1 pV pl.length ps ∧ ClsK 0 w ps pl
  drow : w.ownsRow B 113 25 dV decs.length (dcells decs)
  apart : cV.ownBlock = none ∨ cV.ownBlock ≠ pV.ownBlock
section
variable {B sb : Nat} {W w1 : World} {l : List (List Int)} {s : St} {told : List Int} {decs : List (Int × List Int)} {cl pl : List (List Int)} {cV dV pV : Value}
theorem SAt.sg (h : SAt B W sb l s cV dV pV) : SG B W sb s.told s.decs (l ++ s.prf) s.prf cV dV pV := ⟨h.blk, h.Bsb, h.crow, h.prow, h.drow, h.apart⟩
theorem SG.st (h : SG B W sb s.told s.decs (l ++ s.prf) s.prf cV dV pV) : SAt B W sb l s cV dV pV := ⟨h.blk, h.Bsb, h.crow, h.prow, h.drow, h.apart⟩
theorem SG.new {w' : World} (h : SG B W sb told decs cl pl cV dV pV) (hb : Below W.heap.size W w') : SG B w' sb told decs cl pl cV dV pV := by
  obtain ⟨cs, h1, h2⟩ := h.crow
  obtain ⟨ps, h3, h4⟩ := h.prow
  exact ⟨h.blk.below hb h.blk.lt, h.Bsb, ⟨cs, row_new' h1 hb, h2.kp (Kp.new hb)⟩, ⟨ps, row_new' h3 hb, h4.kp (Kp.new hb)⟩, row_new' h.drow hb, h.apart⟩
theorem SG.c0 (h : SG B W sb told decs cl pl cV dV pV) : W.cell? ⟨sb, 0, none⟩ = some cV := by rw [h.blk.cell]; rfl
theorem SG.c26 (h : SG B W sb told decs cl pl cV dV pV) : W.cell? ⟨sb, 26, none⟩ = some pV := by
  rw [h.blk.cell, List.getElem?_toArray, List.getElem?_append_right (by simp [tvl_len])]; simp [tvl_len]

theorem SG.grow_p {ps : List Value} {pV' : Value} {a : Option Addr} {cap : Nat} {c : List Int} (h : SG B W sb told decs cl pl cV dV pV) (hps : W.ownsRow B 23 1 pV pl.length ps) (hpk : ClsK 0 W ps pl) (hown : w1.ownsRow B 23 1 pV' (pl.length + 1) (ps ++ [.slice a c.length cap])) (hg : W.grownBy w1 pV.ownBlock) (hloc : pV'.ownBlock = pV.ownBlock ∨ pV'.ownBlock = some W.heap.size) (hB : B ≤ W.heap.size)
    (h1 : c.length ≤ cap) (h2 : cap ≤ 9223372036854775807) (h3 : IntsK 0 W a c) :
    w1.cell? ⟨sb, 26, none⟩ = some pV ∧ w1.frozen? ⟨sb, 26, none⟩ = false ∧ SG B (w1.setCell ⟨sb, 26, none⟩ pV') sb told decs cl (pl ++ [c]) cV dV pV' ∧ Below B W (w1.setCell ⟨sb, 26, none⟩ pV') ∧ IntsK 0 (w1.setCell ⟨sb, 26, none⟩ pV') a c := by
  obtain ⟨cs, h4, h5⟩ := h.crow
  have hne : some sb ≠ pV.ownBlock := fun e => ownBlock_ne' hps h.blk (by decide) e.symm
  have hb : Blk w1 sb 75 _ := h.blk.kept hg hne
  have hk := Kp.grown hps hg (by decide)
  have h4' := h4.kept hg h.apart
  have hd' := h.drow.kept hg (ownBlocks_ne h.drow hps (by decide))
  have hk2 : Kp B w1 (w1.setCell ⟨sb, 26, none⟩ pV') := Kp.set h.Bsb hb (by decide)
  have hbw : Below B W w1 := (Below.refl _ _).grown hg hB (fun k hk => (hps.lt k hk).1)
  refine ⟨by rw [hb.cell, List.getElem?_toArray, List.getElem?_append_right (by simp [tvl_len])]; simp [tvl_len], hb.frozen _, ⟨?_, h.Bsb, ⟨cs, ownsRow_setCell_other h4' (ownBlock_ne' h4' hb (by decide)) _, (h5.kp hk).kp hk2⟩, ⟨_, ?_, ((hpk.kp hk.zero).kp hk2.zero).snoc h1 h2 ((h3.kp hk.zero).kp hk2.zero)⟩, ownsRow_setCell_other hd' (ownBlock_ne' hd' hb (by decide)) _, ?_⟩, hbw.setCell h.Bsb _, (h3.kp hk.zero).kp hk2.zero⟩
  · have := hb.set (i := 26) (v := pV')
    rw [set26] at this
    exact this
  · have := ownsRow_setCell_other hown (a := ⟨sb, 26, none⟩) (ownBlock_ne' hown hb (by decide)) pV'
    simpa using this
  · cases hcv : cV.ownBlock with
    | none => exact Or.inl rfl
    | some k =>
      refine Or.inr fun e => ?_
      have hlt := (h4.lt k hcv).2
      rcases hloc with hl | hl
      · rw [hl] at e
        rcases h.apart with ha | ha
        · rw [ha] at hcv; cases hcv
        · exact ha (hcv.trans e)
      · rw [hl] at e
        simp at e
        omega
theorem SG.grow_c {cs : List Value} {cV' : Value} {a : Option Addr} {cap : Nat} {c : List Int} (h : SG B W sb told decs cl pl cV dV pV) (hcs : W.ownsRow B 23 1 cV cl.length cs) (hck : ClsK B W cs cl) (hown : w1.ownsRow B 23 1 cV' (cl.length + 1) (cs ++ [.slice a c.length cap])) (hg : W.grownBy w1 cV.ownBlock) (hloc : cV'.ownBlock = cV.ownBlock ∨ cV'.ownBlock = some W.heap.size) (hB : B ≤ W.heap.size)
    (h1 : c.length ≤ cap) (h2 : cap ≤ 9223372036854775807) (h3 : IntsK B W a c) :
    w1.cell? ⟨sb, 0, none⟩ = some cV ∧ w1.frozen? ⟨sb, 0, none⟩ = false ∧ SG B (w1.setCell ⟨sb, 0, none⟩ cV') sb told decs (cl ++ [c]) pl cV' dV pV ∧ Below B W (w1.setCell ⟨sb, 0, none⟩ cV') := by
  obtain ⟨ps, h4, h5⟩ := h.prow
  have hne : some sb ≠ cV.ownBlock := fun e => ownBlock_ne' hcs h.blk (by decide) e.symm
  have hb : Blk w1 sb 75 _ := h.blk.kept hg hne
  have hk := Kp.grown hcs hg (by decide)
  have hap : pV.ownBlock = none ∨ pV.ownBlock ≠ cV.ownBlock := by
    cases hpv : pV.ownBlock with
    | none => exact Or.inl rfl
    | some k =>
      refine Or.inr fun e => ?_
      rcases h.apart with ha | ha
      · rw [ha] at e; cases e
      · exact ha (e.symm.trans hpv.symm)
  have h4' := h4.kept hg hap
  have hd' := h.drow.kept hg (ownBlocks_ne h.drow hcs (by decide))
  have hk2 : Kp B w1 (w1.setCell ⟨sb, 0, none⟩ cV') := Kp.set h.Bsb hb (by decide)
  have hbw : Below B W w1 := (Below.refl _ _).grown hg hB (fun k hk => (hcs.lt k hk).1)
  refine ⟨by rw [hb.cell]; rfl, hb.frozen _, ⟨?_, h.Bsb, ⟨_, ?_, ((hck.kp hk).kp hk2).snoc h1 h2 ((h3.kp hk).kp hk2)⟩, ⟨ps, ownsRow_setCell_other h4' (ownBlock_ne' h4' hb (by decide)) _, (h5.kp hk.zero).kp hk2.zero⟩, ownsRow_setCell_other hd' (ownBlock_ne' hd' hb (by decide)) _, ?_⟩, hbw.setCell h.Bsb _⟩
  · have := hb.set (i := 0) (v := cV')
    rw [set0] at this
    exact this
  · have := ownsRow_setCell_other hown (a := ⟨sb, 0, none⟩) (ownBlock_ne' hown hb (by decide)) cV'
    simpa using this
  · rcases hloc with hl | hl
    · rw [hl]; exact h.apart
    · rw [hl]
      refine Or.inr fun e => ?_
      have := (h4.lt W.heap.size e.symm).2
      omega
end

def negK (ds : List (Int × List Int)) (k : Nat) : List Int := (refC ds).take k ++ List.replicate (ds.length - k) 0
theorem refC_len (ds : List (Int × List Int)) : (refC ds).length = ds.length := by simp [refC]
theorem negK_len (ds : List (Int × List Int)) {k : Nat} (h : k ≤ ds.length) : (negK ds k).length = ds.length := by
  unfold negK; rw [List.length_append, List.length_take, refC_len, List.length_replicate]; omega
theorem negK_zero (ds : List (Int × List Int)) : negK ds 0 = List.replicate ds.length 0 := by simp [negK]
theorem negK_all (ds : List (Int × List Int)) : negK ds ds.length = refC ds := by
  unfold negK; rw [Nat.sub_self, List.replicate_zero, List.append_nil, ← refC_len ds, List.take_length]
theorem negK_succ {ds : List (Int × List Int)} {k : Nat} {d : Int × List Int} (h : ds[k]? = some d) : (negK ds k).set k (-d.1) = negK ds (k + 1) := by
  have hk := (List.getElem?_eq_some_iff.1 h).1
  have he : (refC ds)[k]? = some (-d.1) := by simp [refC, h]
  apply List.ext_getElem?
  intro i
  rw [List.getElem?_set, negK_len ds (by omega)]
  unfold negK
  by_cases e : k = i
  · subst e
    rw [if_pos rfl, if_pos hk, List.getElem?_append_left (by rw [List.length_take, refC_len]; omega), List.getElem?_take, if_pos (by omega), he]
  · rw [if_neg e]
    by_cases hlt : i < k
    · rw [List.getElem?_append_left (by rw [List.length_take, refC_len]; omega), List.getElem?_append_left (by rw [List.length_take, refC_len]; omega), List.getElem?_take, List.getElem?_take, if_pos hlt, if_pos (by omega)]
    · rw [List.getElem?_append_right (by rw [List.length_take, refC_len]; omega), List.getElem?_append_right (by rw [List.length_take, refC_len]; omega), List.length_take, List.length_take, refC_len, Nat.min_eq_left (by omega), Nat.min_eq_left (by omega), List.getElem?_replicate, List.getElem?_replicate]
      by_cases h2 : i < ds.length
      · rw [if_pos (by omega), if_pos (by omega)]
      · rw [if_neg (by omega), if_neg (by omega)]
theorem icells_set (l : List Int) (k : Nat) (x : Int) : (icells l).set k (.int .i64 x) = icells (l.set k x) := by simp [icells, List.map_set]
theorem icells_made (n : Nat) : (madeCells #[Value.int .i64 0] n).toList = icells (List.replicate n 0) := by rw [toList_madeCells_one]; simp [icells]
end Go.Proofs.YtcmmoinkhodjfabDoor
