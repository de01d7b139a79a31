/- Clauses and ints as arguments. -/
import Derived.Test.YtcmmoinkhodjfaaDoorClCheck
import Derived.Lib.SmallJoins
import Derived.ProofKit
import Derived.OpenShut
namespace Go.Proofs.YtcmmoinkhodjfaaDoor
open Go.ChangeShapes Go.WideShapes Go.ChangeAt Go.RowKit Go.Deep

theorem of_wf {x : Int} (h : (Lit.int .i64 x).wf = true) : I64 x := by
  simp [Lit.wf, IntKind.min, IntKind.max, IntKind.signed, IntKind.bits] at h
  exact ⟨by omega, by omega⟩
set_option maxRecDepth 100000 in
theorem laidOut : laidOutB Tryd.prog = true := by kernel_rfl
theorem cellsInt : Tryd.prog.cellsOf 3 = 1 := by kernel_rfl
set_option maxRecDepth 100000 in
theorem cellsClause : Tryd.prog.cellsOf 23 = 1 := by kernel_rfl

theorem ints_of {H : Type} {enc : TypeId × Value → H} {W : World} {t : TypeId} {fuel : Nat} {cs : List Value} {x : DataW H × List MemPlace} (ht : Tryd.prog.underlying t = some (.slice 3)) (h : DataW.trod enc Tryd.prog W 0 (fun _ => true) true fuel t cs = some x) :
    ∃ (a : Option Addr) (xs : List Int) (cap : Nat), cs = [.slice a xs.length cap] ∧ xs.length ≤ cap ∧ cap ≤ 9223372036854775807 ∧ IntsIn W a xs ∧ ∀ y ∈ xs, I64 y := by
  rcases open_ints ht Tryd.underlying3 cellsInt h with ⟨hcs, -⟩ | ⟨a, len, cap, zs, hcs, _, hl, hm, hz, -, hcell, hwz⟩
  · exact ⟨none, [], 0, hcs, by simp, by simp, IntsIn.nil _ _, fun y hy => by cases hy⟩
  · simp only [if_true] at hz
    unfold maxLen at hm
    have hlen : (zs.take len).length = len := by rw [List.length_take]; omega
    refine ⟨some a, zs.take len, cap, by rw [hlen]; exact hcs, by omega, by omega, fun i hi => ?_, fun y hy => of_wf (hwz y (List.mem_of_mem_take hy))⟩
    have hc := hcell i (by omega)
    have e : (zs.take len).getD i 0 = zs.getD i 0 := by
      rw [hlen] at hi
      simp [List.getD_eq_getElem?_getD, hi]
    have hb := World.block_lt_of_cell? _ _ hc
    rw [addr_block] at hb
    exact ⟨a, rfl, hb, by rw [e]; exact hc⟩

theorem argInts {H : Type} {enc : TypeId × Value → H} {W : World} {a0 : Option Addr} {len cap : Nat} {d : DataW H} {p : List MemPlace} (h : DataW.Trod enc Tryd.prog W 0 (fun _ => true) true 22 (.slice a0 len cap) d p) :
    ∃ xs : List Int, len = xs.length ∧ xs.length ≤ cap ∧ cap ≤ 9223372036854775807 ∧ IntsIn W a0 xs ∧ ∀ y ∈ xs, I64 y := by
  obtain ⟨fuel, hf⟩ := h
  obtain ⟨a, xs, cap', hcs, h1, h2, h3, h4⟩ := ints_of Tryd.underlying22 hf
  simp [Value.cells] at hcs
  obtain ⟨rfl, rfl, rfl⟩ := hcs
  exact ⟨xs, rfl, h1, h2, h3, h4⟩

set_option maxRecDepth 100000 in
theorem argCls {H : Type} {enc : TypeId × Value → H} {W : World} {a0 : Option Addr} {len cap : Nat} {d : DataW H} {p : List MemPlace} (h : DataW.Trod enc Tryd.prog W 0 (fun _ => true) true 37 (.slice a0 len cap) d p) :
    ∃ l : List (List Int), len = l.length ∧ l.length ≤ cap ∧ cap ≤ 9223372036854775807 ∧ ClsIn W a0 l ∧ LitsOk l := by
  obtain ⟨fuel, hf⟩ := h
  rcases open_slice Tryd.underlying37 hf with ⟨hcs, -⟩ | ⟨a, len', cap', m, n, D, Pl, hcs, _, hl, hm, hmm, -, hx⟩
  · simp [Value.cells] at hcs
    obtain ⟨rfl, rfl, rfl⟩ := hcs
    exact ⟨[], rfl, by simp, by simp, fun i hi => by simp at hi, fun c hc => by cases hc⟩
  · simp [Value.cells] at hcs
    obtain ⟨rfl, rfl, rfl⟩ := hcs
    simp only [if_true] at hmm
    subst hmm
    unfold maxLen at hm
    have each : ∀ i, i < m → ∃ c : List Int, (∃ (a' : Option Addr) (cp : Nat), a.block < W.heap.size ∧ W.cell? (a.add i) = some (.slice a' c.length cp) ∧ c.length ≤ cp ∧ cp ≤ 9223372036854775807 ∧ IntsIn W a' c) ∧ ∀ y ∈ c, I64 y := by
      intro i hi
      obtain ⟨cs', h1, h2⟩ := hx i hi
      rw [cellsClause, Nat.mul_one] at h1
      obtain ⟨_, hlen, hcell⟩ := World.cells?_some h1
      obtain ⟨a', xs, cp, rfl, g1, g2, g3, g4⟩ := ints_of Tryd.underlying23 h2
      have c0 := hcell 0 (by omega)
      rw [add_add] at c0
      have hb := World.block_lt_of_cell? _ _ c0
      rw [addr_block] at hb
      exact ⟨xs, ⟨a', cp, hb, by simpa using c0, g1, g2, g3⟩, g4⟩
    obtain ⟨q, hq⟩ := choose_lt (fun i hi => each i hi)
    have hlen : ((List.range len).map q).length = len := by simp
    have e : ∀ i, i < len → ((List.range len).map q).getD i [] = q i := fun i hi => by simp [List.getD_eq_getElem?_getD, hi]
    refine ⟨(List.range len).map q, hlen.symm, by omega, by omega, fun i hi => ?_, fun c hc => ?_⟩
    · rw [hlen] at hi
      obtain ⟨a', cp, h1, h2, h3, h4, h5⟩ := (hq i (by omega)).1
      rw [e i hi]
      exact ⟨a, a', cp, rfl, h1, h2, h3, h4, h5⟩
    · obtain ⟨i, hi, rfl⟩ := List.mem_map.1 hc
      rw [List.mem_range] at hi
      exact (hq i (by omega)).2
theorem argClause {H : Type} {enc : TypeId × Value → H} {W : World} {a0 : Option Addr} {len cap : Nat} {d : DataW H} {p : List MemPlace} (h : DataW.Trod enc Tryd.prog W 0 (fun _ => true) true 23 (.slice a0 len cap) d p) :
    ∃ xs : List Int, len = xs.length ∧ xs.length ≤ cap ∧ cap ≤ 9223372036854775807 ∧ IntsIn W a0 xs ∧ ∀ y ∈ xs, I64 y := by
  obtain ⟨fuel, hf⟩ := h
  obtain ⟨a, xs, cap', hcs, h1, h2, h3, h4⟩ := ints_of Tryd.underlying23 hf
  simp [Value.cells] at hcs
  obtain ⟨rfl, rfl, rfl⟩ := hcs
  exact ⟨xs, rfl, h1, h2, h3, h4⟩

set_option maxRecDepth 100000 in
theorem cls_nil {H : Type} {enc : TypeId × Value → H} {W : World} {a0 : Option Addr} {len cap : Nat} {d : DataW H} {p : List MemPlace} (h : DataW.Trod enc Tryd.prog W 0 (fun _ => true) true 37 (.slice a0 len cap) d p) : a0 = none → cap = 0 := by
  rintro rfl
  obtain ⟨fuel, hf⟩ := h
  rcases Go.Deep.open_slice Tryd.underlying37 hf with ⟨hcs, -⟩ | ⟨a, len', cap', m, n, D, Pl, hcs, -⟩
  · simp [Value.cells] at hcs; exact hcs.2
  · simp [Value.cells] at hcs
set_option maxRecDepth 100000 in
theorem clause_nil {H : Type} {enc : TypeId × Value → H} {W : World} {a0 : Option Addr} {len cap : Nat} {d : DataW H} {p : List MemPlace} (h : DataW.Trod enc Tryd.prog W 0 (fun _ => true) true 23 (.slice a0 len cap) d p) : a0 = none → cap = 0 := by
  rintro rfl
  obtain ⟨fuel, hf⟩ := h
  rcases Go.Deep.open_slice Tryd.underlying23 hf with ⟨hcs, -⟩ | ⟨a, len', cap', m, n, D, Pl, hcs, -⟩
  · simp [Value.cells] at hcs; exact hcs.2
  · simp [Value.cells] at hcs
end Go.Proofs.YtcmmoinkhodjfaaDoor
