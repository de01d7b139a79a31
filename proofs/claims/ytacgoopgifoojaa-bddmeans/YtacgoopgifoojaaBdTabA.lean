/- Tables of all values, in memory. -/
import Derived.Test.YtacgoopgifoojaaBdSameT
import Derived.Test.YtacgoopgifoojaaBdBits
namespace Go.Proofs.Ytacgoopgifoojaa
open Go.RowKit Go.Maps

/-- What is done of a table. -/
def partT (L : List Bool) (n i : Nat) : List Bool := L.take i ++ List.replicate (n - i) false
theorem partT_len {L : List Bool} {n i : Nat} (hL : L.length = n) (hi : i ≤ n) : (partT L n i).length = n := by simp [partT, hL]; omega
theorem partT_zero (L : List Bool) (n : Nat) : partT L n 0 = List.replicate n false := by simp [partT]
theorem partT_full {L : List Bool} {n : Nat} (hL : L.length = n) : partT L n n = L := by simp [partT, ← hL]
theorem partT_set {L : List Bool} {n i : Nat} (hL : L.length = n) (hi : i < n) (b : Bool) (hb : L[i]'(by omega) = b) : (partT L n i).set i b = partT L n (i + 1) := by
  subst hb
  have h1 : i < L.length := by omega
  unfold partT
  rw [List.take_succ_eq_append_getElem h1]
  rw [List.set_append_right _ _ (by simp; omega)]
  have e : i - (L.take i).length = 0 := by simp; omega
  rw [e]
  obtain ⟨m, hm⟩ : ∃ m, n - i = m + 1 := ⟨n - i - 1, by omega⟩
  rw [hm, show n - (i + 1) = m by omega, List.replicate_succ, List.set_cons_zero, List.append_assoc]
  rfl

/-- The cells of a list of tables. -/
def tcells (n : Nat) (gs : List Nat) : List Value := gs.map fun g => .slice (some ⟨g, 0, none⟩) n n
theorem tcells_at (n : Nat) (gs : List Nat) (i : Nat) (h : i < gs.length) : (tcells n gs)[i]? = some (.slice (some ⟨gs[i], 0, none⟩) n n) := by simp [tcells, h]

structure TabsAt (B : Nat) (w : World) (v : Value) (n : Nat) (gs : List Nat) (ts : List (List Bool)) : Prop where
  row : w.ownsRow B 35 1 v gs.length (tcells n gs)
  len : gs.length = ts.length
  lens : ∀ t ∈ ts, t.length = n
  old : ∀ g ∈ gs, B ≤ g
  apart : ∀ g ∈ gs, v.ownBlock ≠ some g
  tabs : ∀ j (h1 : j < gs.length) (h2 : j < ts.length), BoolsAt w gs[j] ts[j]

section
variable {B n : Nat} {w w' : World} {v : Value} {gs : List Nat} {ts : List (List Bool)}

theorem TabsAt.kept {S : Nat → Prop} (h : TabsAt B w v n gs ts) (hk : Kept S w w') (h1 : ∀ k, v.ownBlock = some k → ¬ S k) (h2 : ∀ g ∈ gs, ¬ S g) : TabsAt B w' v n gs ts :=
  ⟨ownsRow_kept h.row hk h1, h.len, h.lens, h.old, h.apart, fun j a b => (h.tabs j a b).kept hk (h2 _ (List.getElem_mem a))⟩
theorem TabsAt.new (h : TabsAt B w v n gs ts) (hb : Below w.heap.size w w') : TabsAt B w' v n gs ts := h.kept (Kept.of_below hb (fun _ => False)) (fun _ _ h => h) (fun _ _ h => h)

theorem bools_row {g cap : Nat} {l : List Bool} (h : w.ownsRow B 4 1 (.slice (some ⟨g, 0, none⟩) n cap) n (mcells l)) (hl : l.length = n) : BoolsAt w g l :=
  ⟨(h.lt g rfl).2, fun i hi => by
    have := h.cellAt i (by omega)
    rw [mcells_at l i hi] at this
    rw [this]
    congr 2
    exact mk_at l i hi⟩
theorem TabsAt.form (h : TabsAt B w v n gs ts) (hne : 0 < gs.length) : ∃ g c, v = .slice (some ⟨g, 0, none⟩) gs.length c ∧ g < w.heap.size ∧ (∀ i (hi : i < gs.length), w.cell? ⟨g, i, none⟩ = some (.slice (some ⟨gs[i], 0, none⟩) n n)) ∧ ∀ x ∈ gs, g ≠ x := by
  have hr := h.row
  rcases hr.2 with ⟨-, e⟩ | ⟨g, cap, cur, e, h2, h3, h4⟩
  · omega
  · subst e
    refine ⟨g, cap, rfl, (hr.lt g rfl).2, fun i hi => ?_, fun x hx e => h.apart x hx (by rw [e]; rfl)⟩
    have := hr.cellAt i (by omega)
    rwa [tcells_at n gs i hi] at this
theorem TabsAt.cell (h : TabsAt B w v n gs ts) {vars : Nat} {T : List Fn'} (e : ts = T.map (tabOf vars)) {p : Nat} (hp : p < gs.length) (hp2 : p < T.length) (i : Nat) (hi : i < n) : w.cell? ⟨gs[p], i, none⟩ = some (.bool (T[p] (bitsF i))) := by
  subst e
  have hp3 : p < (T.map (tabOf vars)).length := by simpa using hp2
  have h1 := (h.tabs p hp hp3).cells i (by rw [h.lens _ (List.getElem_mem hp3)]; exact hi)
  rw [h1]
  simp [tabOf_at]
theorem TabsAt.lt (h : TabsAt B w v n gs ts) : ∀ g ∈ gs, g < w.heap.size := fun g hg => by
  obtain ⟨j, hj, rfl⟩ := List.getElem_of_mem hg
  exact (h.tabs j hj (by rw [← h.len]; exact hj)).lt
end

theorem funT_len (vars : Nat) : ∀ (qs : List Quad) (T : List Fn'), (funT vars T qs).length = T.length + qs.length
  | [], T => rfl
  | q :: qs, T => by
    show (funT vars (roundT vars T q) qs).length = _
    rw [funT_len vars qs]
    simp [roundT]; omega

/-! A step's table, value by value. -/
section
variable {vars : Nat} {T : List Fn'} {q : Quad} {i : Nat}
theorem step0 (h : pickV q.a 9 = 0) : stepT vars T q (bitsF i) = (bitsF i (pickV q.b vars) == oddB q.c) := by unfold stepT; rw [h]; rfl
theorem step1 (h : pickV q.a 9 = 1) : stepT vars T q (bitsF i) = !(tAt T q.b (bitsF i)) := by unfold stepT; rw [h]; rfl
theorem step2 (h : pickV q.a 9 = 2) : stepT vars T q (bitsF i) = (tAt T q.b (bitsF i) && tAt T q.c (bitsF i)) := by unfold stepT; rw [h]; rfl
theorem step3 (h : pickV q.a 9 = 3) : stepT vars T q (bitsF i) = (tAt T q.b (bitsF i) || tAt T q.c (bitsF i)) := by unfold stepT; rw [h]; rfl
theorem step4 (h : pickV q.a 9 = 4) : stepT vars T q (bitsF i) = (tAt T q.b (bitsF i) != tAt T q.c (bitsF i)) := by unfold stepT; rw [h]; rfl
theorem step5 (h : pickV q.a 9 = 5) : stepT vars T q (bitsF i) = if tAt T q.b (bitsF i) = true then tAt T q.c (bitsF i) else tAt T q.d (bitsF i) := by unfold stepT; rw [h]; rfl
theorem step6 (h : pickV q.a 9 = 6) (hi : i < 2 ^ vars) (hv : pickV q.c vars < vars) (h6 : vars ≤ 6) : stepT vars T q (bitsF i) = tAt T q.b (bitsF (if oddB q.d then i ||| 1 <<< pickV q.c vars else offN i (pickV q.c vars))) := by
  unfold stepT; rw [h]
  show tAt T q.b (turn (bitsF i) _ _) = _
  cases oddB q.d
  · rw [← bits_off hi hv h6]; rfl
  · rw [← bits_or]; rfl
theorem step7 (h : pickV q.a 9 = 7) (hi : i < 2 ^ vars) (hv : pickV q.c vars < vars) (h6 : vars ≤ 6) : stepT vars T q (bitsF i) = (tAt T q.b (bitsF (offN i (pickV q.c vars))) || tAt T q.b (bitsF (i ||| 1 <<< pickV q.c vars))) := by
  unfold stepT; rw [h, bits_off hi hv h6, bits_or]; rfl
theorem step8 (h : pickV q.a 9 = 8) (hi : i < 2 ^ vars) (hv : pickV q.c vars < vars) (h6 : vars ≤ 6) : stepT vars T q (bitsF i) = (tAt T q.b (bitsF (offN i (pickV q.c vars))) && tAt T q.b (bitsF (i ||| 1 <<< pickV q.c vars))) := by
  unfold stepT; rw [h, bits_off hi hv h6, bits_or]; rfl
end
end Go.Proofs.Ytacgoopgifoojaa
