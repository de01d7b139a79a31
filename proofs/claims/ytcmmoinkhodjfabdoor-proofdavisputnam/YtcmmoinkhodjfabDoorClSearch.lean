/- What the search has in memory. -/
import Derived.Test.YtcmmoinkhodjfabDoorClNum
import Derived.Test.YtcmmoinkhodjfabDoorClKp
import Derived.Deep.MidRow
import Derived.WalkSmall
import Derived.Deep.RegionLaw
namespace Go.Proofs.YtcmmoinkhodjfabDoor
open Go.RowKit Go.Deep

/-- The decisions, as cells. -/
def dcell (d : Int × List Int) : List Value := .int .i64 d.1 :: tvl d.2
def dcells (ds : List (Int × List Int)) : List Value := ds.flatMap dcell
theorem dcell_len (d : Int × List Int) : (dcell d).length = 25 := by simp [dcell, tvl_len]
theorem dcells_len (ds : List (Int × List Int)) : (dcells ds).length = ds.length * 25 := by
  induction ds with
  | nil => rfl
  | cons d ds ih =>
    have : dcells (d :: ds) = dcell d ++ dcells ds := rfl
    rw [this, List.length_append, dcell_len, ih, List.length_cons]
    omega
theorem dcells_snoc (ds : List (Int × List Int)) (d : Int × List Int) : dcells (ds ++ [d]) = dcells ds ++ dcell d := by simp [dcells]
theorem dcells_at {ds : List (Int × List Int)} {k : Nat} {d : Int × List Int} (h : ds[k]? = some d) (j : Nat) (hj : j < 25) : (dcells ds)[k * 25 + j]? = (dcell d)[j]? := by
  induction ds generalizing k with
  | nil => simp at h
  | cons e ds ih =>
    have he : dcells (e :: ds) = dcell e ++ dcells ds := rfl
    rw [he]
    cases k with
    | zero =>
      simp at h
      subst h
      rw [Nat.zero_mul, Nat.zero_add, List.getElem?_append_left (by rw [dcell_len]; exact hj)]
    | succ k =>
      rw [List.getElem?_append_right (by rw [dcell_len]; omega), dcell_len, show (k + 1) * 25 + j - 25 = k * 25 + j by omega]
      exact ih (by simpa using h)

/-- The search in memory. -/
structure SAt (B : Nat) (w : World) (sb : Nat) (l : List (List Int)) (s : St) (cV dV pV : Value) : Prop where
  blk : Blk w sb 75 ([cV] ++ tvl s.told ++ [dV, pV]).toArray
  Bsb : B ≤ sb
  crow : ∃ cs, w.ownsRow B 23 1 cV (l ++ s.prf).length cs ∧ ClsK B w cs (l ++ s.prf)
  prow : ∃ ps, w.ownsRow B 23 1 pV s.prf.length ps ∧ ClsK 0 w ps s.prf
  drow : w.ownsRow B 113 25 dV s.decs.length (dcells s.decs)
  apart : cV.ownBlock = none ∨ cV.ownBlock ≠ pV.ownBlock

section
variable {B sb : Nat} {w w' : World} {l : List (List Int)} {s : St} {cV dV pV : Value}
theorem SAt.new (h : SAt B w sb l s cV dV pV) (hb : Below w.heap.size w w') : SAt B w' sb l s cV dV pV := by
  obtain ⟨cs, h1, h2⟩ := h.crow
  obtain ⟨ps, h3, h4⟩ := h.prow
  exact ⟨h.blk.below hb h.blk.lt, h.Bsb, ⟨cs, row_new' h1 hb, h2.kp (Kp.new hb)⟩, ⟨ps, row_new' h3 hb, h4.kp (Kp.new hb)⟩, row_new' h.drow hb, h.apart⟩
theorem SAt.vals (h : SAt B w sb l s cV dV pV) : ValsAt w ⟨sb, 1, none⟩ s.told := vals_of (pre := [cV]) (post := [dV, pV]) h.blk
theorem SAt.c0 (h : SAt B w sb l s cV dV pV) : w.cell? ⟨sb, 0, none⟩ = some cV := by rw [h.blk.cell]; rfl
theorem SAt.c25 (h : SAt B w sb l s cV dV pV) : w.cell? ⟨sb, 25, none⟩ = some dV := by
  rw [h.blk.cell, List.getElem?_toArray, List.getElem?_append_right (by simp [tvl_len])]; simp [tvl_len]
theorem SAt.c26 (h : SAt B w sb l s cV dV pV) : w.cell? ⟨sb, 26, none⟩ = some pV := by
  rw [h.blk.cell, List.getElem?_toArray, List.getElem?_append_right (by simp [tvl_len])]; simp [tvl_len]
theorem SAt.fz (h : SAt B w sb l s cV dV pV) (i : Nat) : w.frozen? ⟨sb, i, none⟩ = false := h.blk.frozen i
/-- A cell of the struct is written: the rows stay. -/
theorem SAt.rows (h : SAt B w sb l s cV dV pV) (i : Nat) (u : Value) : (∃ cs, (w.setCell ⟨sb, i, none⟩ u).ownsRow B 23 1 cV (l ++ s.prf).length cs ∧ ClsK B (w.setCell ⟨sb, i, none⟩ u) cs (l ++ s.prf)) ∧ (∃ ps, (w.setCell ⟨sb, i, none⟩ u).ownsRow B 23 1 pV s.prf.length ps ∧ ClsK 0 (w.setCell ⟨sb, i, none⟩ u) ps s.prf) ∧ (w.setCell ⟨sb, i, none⟩ u).ownsRow B 113 25 dV s.decs.length (dcells s.decs) := by
  obtain ⟨cs, h1, h2⟩ := h.crow
  obtain ⟨ps, h3, h4⟩ := h.prow
  have hk : Kp B w (w.setCell ⟨sb, i, none⟩ u) := Kp.set h.Bsb h.blk (by decide)
  exact ⟨⟨cs, ownsRow_setCell_other h1 (ownBlock_ne' h1 h.blk (by decide)) u, h2.kp hk⟩, ⟨ps, ownsRow_setCell_other h3 (ownBlock_ne' h3 h.blk (by decide)) u, h4.kp hk.zero⟩, ownsRow_setCell_other h.drow (ownBlock_ne' h.drow h.blk (by decide)) u⟩
theorem SAt.tell (h : SAt B w sb l s cV dV pV) {x : Int} (hx : litB 24 x = true) (hn : -x ∉ s.told) : SAt B (w.setCell ((⟨sb, 1, none⟩ : Addr).add (tellAt x)) (.int .i8 (tellV x))) sb l ⟨s.told ++ [x], s.decs, s.prf⟩ cV dV pV := by
  have hb := blk_tell (pre := [cV]) (post := [dV, pV]) hx hn h.blk
  have hr := h.rows (1 + tellAt x) (.int .i8 (tellV x))
  rw [add_plain] at *
  exact ⟨hb, h.Bsb, hr.1, hr.2.1, hr.2.2, h.apart⟩
end
end Go.Proofs.YtcmmoinkhodjfabDoor
