/- Steps in memory, and as an argument. -/
import Derived.Test.YtcmmoinkhodjfaaDoorPfFolM
import Derived.Test.YtcmmoinkhodjfaaDoorClRow
import Derived.Test.YtcmmoinkhodjfaaDoorClArg
import Derived.Deep.Slices
import Derived.Lib.SmallJoins
import Derived.Deep.Strs
namespace Go.Proofs.YtcmmoinkhodjfaaDoor
open Go.ChangeShapes Go.WideShapes Go.ChangeAt Go.RowKit Go.Deep

theorem addr_more (a : Addr) (i j : Nat) (h : j ≠ 0) : a.add (i + j) = ⟨(a.add i).block, (a.add i).off + j, none⟩ := by
  unfold Addr.add
  rw [if_neg (by omega)]
  by_cases h0 : i = 0
  · simp [h0]
  · simp [h0, Nat.add_assoc]
/-- What lies at a place of the list. -/
structure StpAt (w : World) (ad : Addr) (i : Nat) (s : Stp) : Prop where
  lt : ad.block < w.heap.size
  c0 : w.cell? (ad.add (i * 3)) = some (.int .i64 s.a)
  c1 : w.cell? ⟨(ad.add (i * 3)).block, (ad.add (i * 3)).off + 1, none⟩ = some (.int .i64 s.b)
  c2 : w.cell? ⟨(ad.add (i * 3)).block, (ad.add (i * 3)).off + 2, none⟩ = some (.int .i64 s.v)
theorem StpAt.below {w w' : World} {ad : Addr} {i : Nat} {s : Stp} (h : StpAt w ad i s) (hb : Below w.heap.size w w') : StpAt w' ad i s :=
  ⟨Nat.lt_of_lt_of_le h.lt hb.size, (hb.cell (by rw [addr_block]; exact h.lt)).trans h.c0, (hb.cell (by show (ad.add (i * 3)).block < _; rw [addr_block]; exact h.lt)).trans h.c1, (hb.cell (by show (ad.add (i * 3)).block < _; rw [addr_block]; exact h.lt)).trans h.c2⟩
/-- Steps that lie in memory from an address on. -/
def StpsIn (w : World) (a : Option Addr) (st : List Stp) : Prop :=
  ∀ i, i < st.length → ∃ ad : Addr, a = some ad ∧ StpAt w ad i (st.getD i ⟨0, 0, 0⟩)
theorem StpsIn.below {w w' : World} {a : Option Addr} {st : List Stp} (h : StpsIn w a st) (hb : Below w.heap.size w w') : StpsIn w' a st := by
  intro i hi
  obtain ⟨ad, ha, h0⟩ := h i hi
  exact ⟨ad, ha, h0.below hb⟩

set_option maxRecDepth 100000 in
theorem cellsStep : Tryd.prog.cellsOf 45 = 3 := by kernel_rfl

set_option maxRecDepth 100000 in
theorem argSteps {H : Type} {enc : TypeId × Value → H} {W : World} {a0 : Option Addr} {len cap : Nat} {d : DataW H} {p : List MemPlace} (h : DataW.Trod enc Tryd.prog W 0 (fun _ => true) true 38 (.slice a0 len cap) d p) : ∃ st : List Stp, len = st.length ∧ st.length ≤ cap ∧ cap ≤ 9223372036854775807 ∧ StpsIn W a0 st ∧ True := by
  obtain ⟨fuel, hf⟩ := h
  rcases open_slice Tryd.underlying38 hf with ⟨hcs, -⟩ | ⟨a, len', cap', m, n, D, Pl, hcs, _, hl, hm, hmm, -, hx⟩
  · simp [Value.cells] at hcs
    obtain ⟨rfl, rfl, rfl⟩ := hcs
    exact ⟨[], rfl, by simp, by simp, fun i hi => by simp at hi, trivial⟩
  · simp [Value.cells] at hcs
    obtain ⟨rfl, rfl, rfl⟩ := hcs
    simp only [if_true] at hmm
    subst hmm
    unfold maxLen at hm
    have each : ∀ i, i < m → ∃ q : Stp, StpAt W a i q := by
      intro i hi
      obtain ⟨cs', h1, h2⟩ := hx i hi
      rw [cellsStep] at h1
      obtain ⟨_, hlen, hcell⟩ := World.cells?_some h1
      obtain ⟨y0, y1, y2, k, -, hl4, g0, g1, g2⟩ := Go.Deep.trod_struct3 Tryd.underlying45 h2
      match cs', hlen with
      | [v0, v1, v2], _ =>
        simp [cellsInt] at g0 g1 g2
        obtain ⟨z0, e0, -, w0⟩ := DataW.trod_int Tryd.underlying3 g0
        obtain ⟨z1, e1, -, w1⟩ := DataW.trod_int Tryd.underlying3 g1
        obtain ⟨z2, e2, -, w2⟩ := DataW.trod_int Tryd.underlying3 g2
        simp at e0 e1 e2
        subst e0 e1 e2
        have c0 := hcell 0 (by simp)
        have c1 := hcell 1 (by simp)
        have c2 := hcell 2 (by simp)
        rw [add_add] at c0 c1 c2
        have hb := World.block_lt_of_cell? _ _ c0
        rw [addr_block] at hb
        refine ⟨⟨z0, z1, z2⟩, hb, by simpa using c0, ?_, ?_⟩
        · rw [addr_more _ _ 1 (by omega)] at c1; simpa using c1
        · rw [addr_more _ _ 2 (by omega)] at c2; simpa using c2
    obtain ⟨q, hq⟩ := choose_lt (fun i hi => each i hi)
    have hlen : ((List.range len).map q).length = len := by simp
    have e : ∀ i, i < len → ((List.range len).map q).getD i ⟨0, 0, 0⟩ = q i := fun i hi => by simp [List.getD_eq_getElem?_getD, hi]
    refine ⟨(List.range len).map q, hlen.symm, by omega, by omega, fun i hi => ?_, trivial⟩
    rw [hlen] at hi
    rw [e i hi]
    exact ⟨a, rfl, hq i (by omega)⟩
end Go.Proofs.YtcmmoinkhodjfaaDoor
