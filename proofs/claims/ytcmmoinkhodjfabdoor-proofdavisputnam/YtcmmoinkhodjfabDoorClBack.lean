/- takeBack. -/
import Derived.Test.YtcmmoinkhodjfabDoorClDecide
namespace Go.Proofs.YtcmmoinkhodjfabDoor
open Go.RowKit Go.Deep

theorem set_range {W : World} {b : Nat} {t : TypeId} {cs : List Value} (h : Blk W b t cs.toArray) (vs : List Value) (o : Nat) (ho : o + vs.length ≤ cs.length) : Blk (W.setCells b o vs) b t (cs.take o ++ vs ++ cs.drop (o + vs.length)).toArray := by
  induction vs generalizing W o cs with
  | nil => simpa [World.setCells] using h
  | cons v vs ih =>
    have h1 := h.set (i := o) (v := v)
    rw [List.setIfInBounds_toArray] at h1
    simp only [List.length_cons] at ho
    have h2 := ih h1 (o + 1) (by rw [List.length_set]; omega)
    show Blk ((W.setCell ⟨b, o, none⟩ v).setCells b (o + 1) vs) b t _
    have e : (cs.set o v).take (o + 1) ++ vs ++ (cs.set o v).drop (o + 1 + vs.length) = cs.take o ++ v :: vs ++ cs.drop (o + (vs.length + 1)) := by
      rw [List.take_succ_eq_append_getElem (by rw [List.length_set]; omega), List.take_set_of_le (Nat.le_refl _), List.getElem_set_self, List.drop_set_of_lt (by omega)]
      simp [Nat.add_assoc, Nat.add_comm 1]
    rw [e] at h2
    exact h2
theorem kp_cells {B : Nat} {b : Nat} {t : TypeId} (hB : B ≤ b) (ht : t ≠ 3) : ∀ (vs : List Value) (o : Nat) (W : World) (cs : Array Value), Blk W b t cs → Kp B W (W.setCells b o vs)
  | [], _, W, _, _ => Kp.refl B W
  | _ :: vs, o, _, _, h => (Kp.set hB h ht).trans (kp_cells hB ht vs (o + 1) _ _ h.set)
theorem row_cells {B : Nat} {e : TypeId} {size n b : Nat} {V : Value} {xs : List Value} (hne : V.ownBlock ≠ some b) : ∀ (vs : List Value) (o : Nat) (W : World), W.ownsRow B e size V n xs → (W.setCells b o vs).ownsRow B e size V n xs
  | [], _, _, h => h
  | v :: vs, o, _, h => row_cells hne vs (o + 1) _ (ownsRow_setCell_other h (a := ⟨b, o, none⟩) hne v)
theorem below_cells {B b : Nat} (hB : B ≤ b) {W0 : World} : ∀ (vs : List Value) (o : Nat) (W : World), Below B W0 W → Below B W0 (W.setCells b o vs)
  | [], _, _, h => h
  | v :: vs, o, _, h => below_cells hB vs (o + 1) _ (h.setCell (p := ⟨b, o, none⟩) hB v)

theorem back_mid {B sb : Nat} {w : World} {l : List (List Int)} {s : St} {cV dV pV : Value} (h : SAt B w sb l s cV dV pV) (t : List Int) : SAt B (w.setCells sb 1 (tvl t)) sb l ⟨t, s.decs, s.prf⟩ cV dV pV ∧ Below B w (w.setCells sb 1 (tvl t)) := by
  obtain ⟨cs, h1, h2⟩ := h.crow
  obtain ⟨ps, h3, h4⟩ := h.prow
  have hk : Kp B w (w.setCells sb 1 (tvl t)) := kp_cells h.Bsb (by decide) _ _ _ _ h.blk
  refine ⟨⟨?_, h.Bsb, ⟨cs, row_cells (ownBlock_ne' h1 h.blk (by decide)) _ _ _ h1, h2.kp hk⟩, ⟨ps, row_cells (ownBlock_ne' h3 h.blk (by decide)) _ _ _ h3, h4.kp hk.zero⟩, row_cells (ownBlock_ne' h.drow h.blk (by decide)) _ _ _ h.drow, h.apart⟩, below_cells h.Bsb _ _ _ (Below.refl _ _)⟩
  have := set_range h.blk (tvl t) 1 (by simp [tvl_len])
  have e : ([cV] ++ tvl s.told ++ [dV, pV]).take 1 ++ tvl t ++ ([cV] ++ tvl s.told ++ [dV, pV]).drop (1 + (tvl t).length) = [cV] ++ tvl t ++ [dV, pV] := by
    rw [tvl_len, List.append_assoc [cV], List.take_append_of_le_length (by simp), List.drop_append, List.drop_append_of_le_length (by simp [tvl_len])]
    have : (tvl s.told).drop 24 = [] := List.drop_eq_nil_of_le (by rw [tvl_len]; exact Nat.le_refl _)
    simp [this]
  rw [e] at this
  exact this

theorem infoVals' (told : List Int) : (Tryd.prog.info? 72).map (·.size) = some (tvl told).length := by rw [tvl_len]; exact infoVals
theorem one_tvl (told : List Int) : ∀ v ∈ tvl told, v.oneCell' = true := fun v hv => by
  unfold tvl at hv
  obtain ⟨i, _, rfl⟩ := List.mem_map.1 hv
  rfl

set_option maxRecDepth 100000 in
set_option maxHeartbeats 2000000 in
theorem back_any (B sb : Nat) (l : List (List Int)) (s : St) (cV dV pV : Value) (ds : List (Int × List Int)) (x : Int) (t : List Int) (hds : s.decs = ds ++ [(x, t)]) (hd : s.decs.length ≤ 24) (w : World) (h : SAt B w sb l s cV dV pV) :
    Calls Tryd.prog 34 #[.pointer (some ⟨sb, 0, none⟩)] w fun e w' => e = .returned (.tuple #[]) ∧ (∃ dV', SAt B w' sb l ⟨t, ds, s.prf⟩ cV dV' pV) ∧ Below B w w' := by
  have hrow := h.drow
  rw [hds, dcells_snoc] at hrow
  have hlen : (ds ++ [(x, t)]).length = ds.length + 1 := by simp
  rw [hlen] at hrow
  obtain ⟨g, cap, rfl, hBg, hgl⟩ := hrow.form (by omega)
  have hcap : ds.length + 1 ≤ cap ∧ cap ≤ 9223372036854775807 := by
    rcases hrow.2 with ⟨e, _⟩ | ⟨g', cap', cur, e, -, -, q1, q2, -⟩
    · cases e
    · cases e; unfold maxLen at q2; exact ⟨q1, q2⟩
  have hr : w.rangeAt g (ds.length * 25 + 1) (tvl t) := by
    intro j v hj
    have hj24 : j < 24 := by have := (List.getElem?_eq_some_iff.1 hj).1; rw [tvl_len] at this; exact this
    have := hrow.cellAt (ds.length * 25 + 1 + j) (by omega)
    rw [this, List.getElem?_append_right (by rw [dcells_len]; omega), dcells_len, show ds.length * 25 + 1 + j - ds.length * 25 = j + 1 by omega]
    exact hj
  have hth : w.there sb 1 (tvl t).toArray.size := by
    intro j hj
    have hj24 : j < 24 := by simpa [tvl_len] using hj
    have := h.vals.cell j hj24
    rw [add_plain] at this
    exact ⟨by rw [this]; rfl, h.fz _⟩
  have c25 := h.c25
  obtain ⟨hm, hmb⟩ := back_mid h t
  have m25 := hm.c25
  have mf := hm.fz 25
  have hset := hm.blk.set (i := 25) (v := .slice (some ⟨g, 0, none⟩) ds.length cap)
  rw [set25] at hset
  have hrows := hm.rows 25 (.slice (some ⟨g, 0, none⟩) ds.length cap)
  have hpop : (((w.setCells sb 1 (tvl t)).setCell ⟨sb, 25, none⟩ (.slice (some ⟨g, 0, none⟩) ds.length cap))).ownsRow B 113 25 (.slice (some ⟨g, 0, none⟩) ds.length cap) ds.length (dcells ds) := by
    have := hrows.2.2
    simp only [hds, dcells_snoc, hlen] at this
    exact ownsRow_pop (dcells_len ds) this
  have HS : Hid (SAt B ((w.setCells sb 1 (tvl t)).setCell ⟨sb, 25, none⟩ (.slice (some ⟨g, 0, none⟩) ds.length cap)) sb l ⟨t, ds, s.prf⟩ cV (.slice (some ⟨g, 0, none⟩) ds.length cap) pV) := ⟨hset, hm.Bsb, hrows.1, hrows.2.1, hpop, hm.apart⟩
  have HB : Hid (Below B w ((w.setCells sb 1 (tvl t)).setCell ⟨sb, 25, none⟩ (.slice (some ⟨g, 0, none⟩) ds.length cap))) := hmb.setCell hm.Bsb _
  have hu := Lib.hid Tryd.underlying72
  have hi := Lib.hid (infoVals' t)
  have ho := Lib.hid (all_oneCell_toArray (one_tvl t))
  have HR := Lib.hid hr
  have HTH := Lib.hid hth
  rw [hds, hlen] at hd
  clear h hm hmb hset hrows hpop hr hth hrow hlen hds
  have e1 : (ds.length : Int) + 1 - 1 = (ds.length : Int) := by omega
  generalize tvl t = V at *
  generalize ds.length = n at *
  go_enter Tryd.func34, Tryd.ntmps34
  go_wp2_with (first
    | (refine wpList_load_mid (by rfl) 72 _ (by rfl) g (n * 25 + 1) (by rfl) V _ HR.out hu.out (by rfl) hi.out ?_)
    | (refine wpList_store_mid (by rfl) 72 _ _ (by rfl) sb 1 V.toArray (by rfl) (by rfl) HTH.out (by simpa using hi.out) ho.out ?_)
    | fail)
  refine bodyPost_end (v := .tuple #[]) (by simp [results, Tryd.results34, go_sem]) rfl ?_
  exact ⟨rfl, ⟨_, HS.out⟩, HB.out⟩
end Go.Proofs.YtcmmoinkhodjfabDoor
