/- Clauses as sides, each once: a row and a map. -/
import Derived.Test.YtcmmoinkhodjfaaDoorPfRep
import Derived.Test.YtcmmoinkhodjfaaDoorPfElim
import Derived.Test.YtcmmoinkhodjfaaDoorPfSides
import Derived.Test.YtcmmoinkhodjfaaDoorClKp
namespace Go.Proofs.YtcmmoinkhodjfaaDoor
open Go.RowKit Go.Deep Go.Maps

set_option maxRecDepth 100000 in
theorem laidOutP : laidOutB Tryd.prog = true := by kernel_rfl
theorem rowSides : (68 : TypeId) < Tryd.prog.types.size := of_decide_eq_true (by kernel_rfl)
theorem wideSides : (match Tryd.prog.underlying 68 with | some (.array _ _) | some (.struct _) => true | _ => false) = true := by rw [Tryd.underlying68]
set_option maxRecDepth 100000 in
theorem lawS : Keyed Tryd.prog 68 := Keyed.of_law (deep_law_laid laidOutP (m := 2) (by omega) rowSides (by kernel_rfl) wideSides)
set_option maxRecDepth 100000 in
theorem keyTypeS : Tryd.prog.keyType 68 = true := by kernel_rfl
theorem cellsS : Tryd.prog.cellsOf 68 = 2 := by kernel_rfl
theorem cellsU : Tryd.prog.cellsOf 66 = 1 := by kernel_rfl
/-- A clause as a key. -/
def sLit (s : Nat × Nat) : Lit := .string (keyBytes [.int .u64 (s.1 : Int), .int .u64 (s.2 : Int)])
theorem wf_u {m : Nat} (h : m < 2 ^ 24) : (Lit.int .u64 (m : Int)).wf = true := by
  have h63 : (2 : Nat) ^ 24 < 18446744073709551615 := by decide
  simp [Lit.wf, IntKind.min, IntKind.max, IntKind.signed, IntKind.bits]
  omega
theorem litsU (d : Nat) {m : Nat} (h : m < 2 ^ 24) : Tryd.prog.keyLits (d + 1) 66 [.int .u64 (m : Int)] = some [.int .u64 (m : Int)] := by
  unfold Program.keyLits
  rw [Tryd.underlying66]
  simp [wf_u h]
theorem keyS (s : Nat × Nat) (h : Small s) : keyOf Tryd.prog 68 (sidesV s) = some (sLit s) := by
  have hf : (sidesV s).formed Tryd.prog 68 = true := by simp [Value.formed, Tryd.underlying68, cellsS, sidesV]
  unfold keyOf
  rw [Tryd.underlying68]
  simp only [keyTypeS, hf, Bool.and_self, if_true]
  obtain ⟨d, hd⟩ : ∃ d, Tryd.prog.types.size + 1 = d + 2 := ⟨Tryd.prog.types.size - 1, by have : 0 < Tryd.prog.types.size := Nat.lt_of_le_of_lt (Nat.zero_le _) rowSides; omega⟩
  rw [hd]
  unfold Program.keyLits
  rw [Tryd.underlying68]
  have hc : (sidesV s).cells.toList = [.int .u64 (s.1 : Int), .int .u64 (s.2 : Int)] := rfl
  rw [hc]
  simp [cellsS, cellsU, litsU d h.1, litsU d h.2, sLit]
theorem sLit_inj {s t : Nat × Nat} (hs : Small s) (ht : Small t) (h : sLit s = sLit t) : s = t := by
  have := lawS.inj (keyS s hs) (h ▸ keyS t ht)
  obtain ⟨a, b⟩ := s
  obtain ⟨c, d⟩ := t
  simp [sidesV] at this
  exact Prod.ext (by show a = c; omega) (by show b = d; omega)
theorem zeroE (w : World) : (zeroValue 113).run Tryd.prog w = .ok (.agg #[]) w := by kernel_rfl

def unitL (l : List (Nat × Nat)) : List ((Nat × Nat) × Unit) := l.map fun s => (s, ())
theorem unitL_fst (l : List (Nat × Nat)) : (unitL l).map Prod.fst = l := by unfold unitL; rw [List.map_map]; simp [Function.comp_def]
def SRep (D : DataW Unit) (l : List (Nat × Nat)) : Prop := Rep Small sLit (fun _ : Unit => .agg []) D (unitL l)
def SetAt (w : World) (bm : Nat) (l : List (Nat × Nat)) : Prop := ∃ D, w.ownsMap Tryd.prog 68 unitElem bm l.length D ∧ SRep D l
theorem SetAt.lt {w : World} {bm : Nat} {l : List (Nat × Nat)} (h : SetAt w bm l) : bm < w.heap.size := by obtain ⟨D, hD, _⟩ := h; exact hD.lt
theorem SetAt.made (w : World) : SetAt (w.alloc (.map #[] 0)) w.heap.size [] := ⟨.map [], World.ownsMap_made w _ _ _, Rep.empty⟩
theorem SetAt.block {w w' : World} {bm : Nat} {l : List (Nat × Nat)} (h : SetAt w bm l) (hb : w'.heap[bm]? = w.heap[bm]?) : SetAt w' bm l := by
  obtain ⟨D, ⟨es, clock, h1, h2⟩, hR⟩ := h
  exact ⟨D, ⟨es, clock, hb.trans h1, h2⟩, hR⟩
theorem SetAt.look {w : World} {bm : Nat} {l : List (Nat × Nat)} (h : SetAt w bm l) {s : Nat × Nat} (hs : Small s) :
    (Instr.lookup 91 (.map (some bm)) (.agg #[.int .u64 (s.1 : Int), .int .u64 (s.2 : Int)]) true).run Tryd.prog w = .ok (.tuple #[.agg #[], .bool (decide (s ∈ l))]) w := by
  obtain ⟨D, hD, hR⟩ := h
  obtain ⟨v, ps, hrun, hv⟩ := hD.look_ok lawS Tryd.underlying91 (zeroE w) unitElem_mk (keyS s hs)
  obtain ⟨rfl, -⟩ := unitElem_inv hv
  have e : Maps.has D (sLit s) = decide (s ∈ l) := by
    rw [Bool.eq_iff_iff, decide_eq_true_eq, Rep.has hR s hs, unitL_fst]
  rw [e] at hrun
  exact hrun
theorem look_none {w : World} {s : Nat × Nat} (hs : Small s) :
    (Instr.lookup 91 (.map none) (.agg #[.int .u64 (s.1 : Int), .int .u64 (s.2 : Int)]) true).run Tryd.prog w = .ok (.tuple #[.agg #[], .bool false]) w :=
  Maps.look_nil true lawS Tryd.underlying91 (zeroE w) (keyS s hs)
theorem SetAt.put {w : World} {bm : Nat} {l : List (Nat × Nat)} (h : SetAt w bm l) (hl : l.length < 1000000) {s : Nat × Nat} (hs : Small s) (hn : s ∉ l) :
    ∃ w', (Instr.mapUpdate 91 (.map (some bm)) (.agg #[.int .u64 (s.1 : Int), .int .u64 (s.2 : Int)]) (.agg #[])).run Tryd.prog w = .ok () w' ∧ SetAt w' bm (l ++ [s]) ∧ w.grownBy w' (some bm) := by
  obtain ⟨D, hD, hR⟩ := h
  obtain ⟨w', hrun, g1, k1⟩ := hD.update lawS Tryd.underlying91 (by unfold maxLen; omega) (keyS s hs) unitElem_mk
  have hR1 : SRep (D.put (sLit s) (.agg [])) (l ++ [s]) := by
    have := Rep.put hR (fun a b ha hb e => sLit_inj ha hb e) (fun _ => trivial) hs (by rw [unitL_fst]; exact hn) ()
    show Rep _ _ _ _ (unitL (l ++ [s]))
    unfold unitL at *
    rw [List.map_append]
    exact this
  refine ⟨w', hrun, ⟨_, ?_, hR1⟩, k1⟩
  have h2 := hR1.size
  unfold unitL at h2
  rw [List.length_map] at h2
  exact h2 ▸ ownsMap_norm g1

/-- The row. -/
def scells (l : List (Nat × Nat)) : List Value := l.flatMap fun s => [.int .u64 (s.1 : Int), .int .u64 (s.2 : Int)]
theorem scells_len (l : List (Nat × Nat)) : (scells l).length = l.length * 2 := by
  induction l with
  | nil => rfl
  | cons s l ih =>
    have : scells (s :: l) = [.int .u64 (s.1 : Int), .int .u64 (s.2 : Int)] ++ scells l := rfl
    rw [this, List.length_append, ih, List.length_cons]
    simp
    omega
theorem scells_snoc (l : List (Nat × Nat)) (s : Nat × Nat) : scells (l ++ [s]) = scells l ++ [.int .u64 (s.1 : Int), .int .u64 (s.2 : Int)] := by simp [scells]
theorem scells_at {l : List (Nat × Nat)} {k : Nat} (hk : k < l.length) : (scells l)[k * 2]? = some (.int .u64 ((l.getD k (0, 0)).1 : Int)) ∧ (scells l)[k * 2 + 1]? = some (.int .u64 ((l.getD k (0, 0)).2 : Int)) := by
  induction l generalizing k with
  | nil => simp at hk
  | cons s l ih =>
    have he : scells (s :: l) = [.int .u64 (s.1 : Int), .int .u64 (s.2 : Int)] ++ scells l := rfl
    rw [he]
    cases k with
    | zero => simp
    | succ k =>
      have := ih (k := k) (by simpa using hk)
      rw [List.getElem?_append_right (by simp; omega), List.getElem?_append_right (by simp; omega)]
      simp only [List.length_cons, List.length_nil]
      rw [show (k + 1) * 2 - (0 + 1 + 1) = k * 2 by omega, show (k + 1) * 2 + 1 - (0 + 1 + 1) = k * 2 + 1 by omega]
      simpa using this
theorem infoS : (Tryd.prog.info? 68).map (fun i => (i.zero, i.size, i.bytes)) = some (some (.agg #[.int .u64 0, .int .u64 0]), 2, 16) := by kernel_rfl

/-- A pile in memory. -/
structure PileM (B : Nat) (w : World) (pb : Nat) (l : List (Nat × Nat)) (lV mV : Value) : Prop where
  blk : Blk w pb 93 #[lV, mV]
  row : w.ownsRow B 68 2 lV l.length (scells l)
  map : (l = [] ∧ mV = .map none) ∨ ∃ bm, mV = .map (some bm) ∧ B ≤ bm ∧ SetAt w bm l
  small : ∀ s ∈ l, Small s
theorem PileM.block {B : Nat} {w w' : World} {pb : Nat} {l : List (Nat × Nat)} {lV mV : Value} (h : PileM B w pb l lV mV) (hb : ∀ k, k = pb ∨ lV.ownBlock = some k ∨ mV = .map (some k) → w'.heap[k]? = w.heap[k]?) : PileM B w' pb l lV mV := by
  refine ⟨(hb pb (Or.inl rfl)).trans h.blk, ?_, ?_, h.small⟩
  · obtain ⟨h1, h2⟩ := h.row
    refine ⟨h1, ?_⟩
    rcases h2 with h2 | ⟨g, cap, cur, hv, hg, hh, r⟩
    · exact Or.inl h2
    · exact Or.inr ⟨g, cap, cur, hv, hg, (hb g (Or.inr (Or.inl (by rw [hv]; rfl)))).trans hh, r⟩
  · rcases h.map with h3 | ⟨bm, e, hB, hs⟩
    · exact Or.inl h3
    · exact Or.inr ⟨bm, e, hB, hs.block (hb bm (Or.inr (Or.inr e)))⟩
theorem PileM.lt {B : Nat} {w : World} {pb : Nat} {l : List (Nat × Nat)} {lV mV : Value} (h : PileM B w pb l lV mV) : ∀ k, k = pb ∨ lV.ownBlock = some k ∨ mV = .map (some k) → k < w.heap.size := by
  rintro k (rfl | e | e)
  · exact h.blk.lt
  · exact (h.row.lt k e).2
  · rcases h.map with ⟨_, e2⟩ | ⟨bm, e2, _, hs⟩
    · rw [e2] at e; cases e
    · rw [e2] at e; cases e; exact hs.lt
theorem PileM.new {B : Nat} {w w' : World} {pb : Nat} {l : List (Nat × Nat)} {lV mV : Value} (h : PileM B w pb l lV mV) (hb : Below w.heap.size w w') : PileM B w' pb l lV mV :=
  h.block fun k hk => hb.block k (h.lt k hk)
theorem PileM.start (w : World) : PileM w.heap.size (w.alloc (.cells #[.slice none 0 0, .map none] 93)) w.heap.size [] (.slice none 0 0) (.map none) :=
  ⟨Blk.new _ _ _, World.ownsRow_nil _ _ _ _, Or.inl ⟨rfl, rfl⟩, fun s hs => by cases hs⟩
/-- What a call leaves: all other blocks. -/
def Fr (w w' : World) (pb : Nat) (lV mV : Value) : Prop := ∀ k, k < w.heap.size → k ≠ pb → lV.ownBlock ≠ some k → mV ≠ .map (some k) → w'.heap[k]? = w.heap[k]?
def NewP (w : World) (lV lV' mV mV' : Value) : Prop := (lV'.ownBlock = lV.ownBlock ∨ ∃ g, lV'.ownBlock = some g ∧ w.heap.size ≤ g) ∧ (mV' = mV ∨ ∃ g, mV' = .map (some g) ∧ w.heap.size ≤ g)
def AddR (B : Nat) (w : World) (pb : Nat) (lV mV : Value) (l' : List (Nat × Nat)) (w' : World) : Prop := (∃ lV' mV', PileM B w' pb l' lV' mV' ∧ NewP w lV lV' mV mV') ∧ Below B w w' ∧ Fr w w' pb lV mV
theorem Fr.of_below {w w' : World} {pb : Nat} {lV mV : Value} (h : Below w.heap.size w w') : Fr w w' pb lV mV := fun k hk _ _ _ => h.block k hk
end Go.Proofs.YtcmmoinkhodjfaaDoor
