/- Steps that are copied. -/
import Derived.Test.YtacgoopgifoojaaBdTabW
import Derived.Test.YtacgoopgifoojaaBdTruth
import Derived.Deep.AppendLies
namespace Go.Proofs.Ytacgoopgifoojaa
open Go.RowKit Go.Maps

def qcell (q : Quad) : List Value := [.int .i64 q.a, .int .i64 q.b, .int .i64 q.c, .int .i64 q.d]
def qcells (xs : List Quad) : List Value := xs.flatMap qcell
theorem qcells_len (xs : List Quad) : (qcells xs).length = xs.length * 4 := by
  induction xs with
  | nil => rfl
  | cons q qs ih =>
    have : qcells (q :: qs) = qcell q ++ qcells qs := rfl
    rw [this, List.length_append, ih]; simp [qcell]; omega
theorem qcells_at : ∀ (xs : List Quad) (i f : Nat), i < xs.length → f < 4 → (qcells xs)[i * 4 + f]? = (qcell (qd xs i))[f]?
  | [], i, f, h, _ => by simp at h
  | q :: qs, 0, f, _, hf => by
    have : qcells (q :: qs) = qcell q ++ qcells qs := rfl
    rw [this, List.getElem?_append_left (by simp [qcell]; omega)]
    simp [qd]
  | q :: qs, i + 1, f, h, hf => by
    have : qcells (q :: qs) = qcell q ++ qcells qs := rfl
    have hl : (qcell q).length = 4 := rfl
    rw [this, List.getElem?_append_right (by rw [hl]; omega), hl, show (i + 1) * 4 + f - 4 = i * 4 + f by omega, qcells_at qs i f (by simpa using h) hf]
    congr 1
theorem qcells_snoc (xs : List Quad) (k : Nat) (h : k < xs.length) : qcells (xs.take (k + 1)) = qcells (xs.take k) ++ qcell (qd xs k) := by
  have : qd xs k = xs[k] := by unfold qd; simp [List.getD_eq_getElem?_getD, List.getElem?_eq_getElem h]
  rw [List.take_succ_eq_append_getElem h, ← this]
  unfold qcells
  rw [List.flatMap_append]
  simp only [List.flatMap_cons, List.flatMap_nil, List.append_nil]

theorem infoStep : (Try.prog.info? 54).map (fun i => (i.zero, i.size, i.bytes)) = some (some (.agg #[.int .i64 0, .int .i64 0, .int .i64 0, .int .i64 0]), 4, 32) := by kernel_rfl

theorem addr0 (g j : Nat) : (⟨g, 0, none⟩ : Addr).add j = ⟨g, j, none⟩ := by
  unfold Addr.add; split
  · rename_i h; subst h; rfl
  · simp

/-- A row of steps, step by step. -/
theorem quads_row {B : Nat} {w : World} {v : Value} {xs : List Quad} (h : w.ownsRow B 54 4 v xs.length (qcells xs)) (ok : ∀ i, i < xs.length → (qd xs i).Ok) :
    ∃ a c, v = .slice a xs.length c ∧ ∀ i, i < xs.length → ∃ ad, a = some ad ∧ QuadAt w ad i (qd xs i) := by
  rcases h.2 with ⟨e, e0⟩ | ⟨g, cap, cur, e, h2, h3, h4⟩
  · exact ⟨none, 0, by rw [e, e0], fun i hi => by omega⟩
  · subst e
    have hc : ∀ i f, i < xs.length → f < 4 → w.cell? ⟨g, i * 4 + f, none⟩ = (qcell (qd xs i))[f]? := fun i f hi hf => by
      rw [h.cellAt (i * 4 + f) (by omega)]; exact qcells_at xs i f hi hf
    refine ⟨some ⟨g, 0, none⟩, cap, rfl, fun i hi => ⟨_, rfl, ⟨(h.lt g rfl).2, ?_, ?_, ?_, ?_, ok i hi⟩⟩⟩
    · rw [addr0]; exact hc i 0 hi (by omega)
    · rw [addr0]; exact hc i 1 hi (by omega)
    · rw [addr0]; exact hc i 2 hi (by omega)
    · rw [addr0]; exact hc i 3 hi (by omega)
end Go.Proofs.Ytacgoopgifoojaa
