/- Lines and items in memory. -/
import Derived.Test.YtljeigdkbnichaaGreatDoorCtPlain
import Derived.Test.YtljeigdkbnichaaGreatDoorClKp
namespace Go.Proofs.YtljeigdkbnichaaGreatDoor
open Go.RowKit Go.Deep Sv

/-! ### Rows of cells -/
/-- So many elements lie in memory, as these cells. -/
structure RowAt (w : World) (v : Value) (n : Nat) (cs : List Value) : Prop where
  form : ∃ a cap, v = .slice a n cap ∧ (a = none → cap = 0) ∧ n ≤ cap ∧ cap ≤ 9223372036854775807 ∧ (a = none ∨ ∃ g, a = some ⟨g, 0, none⟩)
  cells : 0 < n → ∃ g cap, v = .slice (some ⟨g, 0, none⟩) n cap ∧ g < w.heap.size ∧ ∀ (j : Nat) u, cs[j]? = some u → w.cell? ⟨g, j, none⟩ = some u

theorem RowAt.below {B : Nat} {w w' : World} {v : Value} {n : Nat} {cs : List Value} (h : RowAt w v n cs) (hb : Below B w w') (hB : w.heap.size ≤ B) : RowAt w' v n cs :=
  ⟨h.form, fun hn => by
    obtain ⟨g, cap, e, hg, hc⟩ := h.cells hn
    exact ⟨g, cap, e, Nat.lt_of_lt_of_le hg hb.size, fun j u hu => (hb.cell (p := ⟨g, j, none⟩) (by show g < B; omega)).trans (hc j u hu)⟩⟩
theorem rowAt_own {B : Nat} {w : World} {v : Value} {t : TypeId} {k n : Nat} {cs : List Value} (h : w.ownsRow B t k v n cs) : RowAt w v n cs := by
  have hl := h.1
  rcases h.2 with ⟨e, e0⟩ | ⟨g, cap, cur, e, hB, hg, hn, hm, hsz, htake⟩
  · exact ⟨⟨none, 0, by rw [e, e0], fun _ => rfl, by omega, by omega, Or.inl rfl⟩, fun hi => by omega⟩
  · unfold maxLen at hm
    refine ⟨⟨_, _, e, (fun h => by cases h), hn, hm, Or.inr ⟨g, rfl⟩⟩, fun _ => ⟨g, cap, e, (h.lt g (by rw [e]; rfl)).2, fun j u hu => ?_⟩⟩
    have hj := (List.getElem?_eq_some_iff.1 hu).1
    rw [← htake, List.getElem?_take, if_pos (by omega)] at hu
    rw [← hu]
    simp [World.cell?, hg]
theorem rowAt_nil (w : World) : RowAt w (.slice none 0 0) 0 [] := ⟨⟨none, 0, rfl, fun _ => rfl, by omega, by omega, Or.inl rfl⟩, fun h => by omega⟩

/-! ### Items -/
def encIt (x : It) : List Value := [.string x.name, .int .i64 x.a, .int .i64 x.b, .int .i64 x.c]
def itCells (l : List It) : List Value := l.flatMap encIt
theorem itCells_length (l : List It) : (itCells l).length = l.length * 4 := by
  induction l with
  | nil => rfl
  | cons x l ih => unfold itCells at *; rw [List.flatMap_cons, List.length_append, ih]; simp [encIt]; omega
theorem itCells_append (a b : List It) : itCells (a ++ b) = itCells a ++ itCells b := by simp [itCells]
theorem itCells_at : ∀ (l : List It) (i : Nat), i < l.length → ∀ (j : Nat) (u : Value), (encIt (l.getD i default))[j]? = some u → (itCells l)[i * 4 + j]? = some u
  | [], i, h, _, _, _ => by simp at h
  | x :: l, 0, _, j, u, hu => by
    have hj : j < 4 := by have := (List.getElem?_eq_some_iff.1 hu).1; simpa [encIt] using this
    rw [show itCells (x :: l) = encIt x ++ itCells l from rfl, Nat.zero_mul, Nat.zero_add, List.getElem?_append_left (by simpa [encIt] using hj)]
    simpa using hu
  | x :: l, i + 1, h, j, u, hu => by
    have ih := itCells_at l i (by simpa using h) j u (by simpa using hu)
    rw [show itCells (x :: l) = encIt x ++ itCells l from rfl, List.getElem?_append_right (by simp [encIt]; omega)]
    rw [show (i + 1) * 4 + j - (encIt x).length = i * 4 + j by simp [encIt]; omega]
    exact ih
def ItsAt (w : World) (v : Value) (l : List It) : Prop := RowAt w v l.length (itCells l)
theorem ItsAt.at {w : World} {v : Value} {l : List It} (h : ItsAt w v l) (i : Nat) (hi : i < l.length) : ∃ g cap, v = .slice (some ⟨g, 0, none⟩) l.length cap ∧ g < w.heap.size ∧ w.cell? ⟨g, i * 4, none⟩ = some (.string (l.getD i default).name) ∧ w.cell? ⟨g, i * 4 + 1, none⟩ = some (.int .i64 (l.getD i default).a) ∧ w.cell? ⟨g, i * 4 + 2, none⟩ = some (.int .i64 (l.getD i default).b) ∧ w.cell? ⟨g, i * 4 + 3, none⟩ = some (.int .i64 (l.getD i default).c) := by
  obtain ⟨g, cap, e, hg, hc⟩ := h.cells (by omega)
  exact ⟨g, cap, e, hg, hc _ _ (itCells_at l i hi 0 _ rfl), hc _ _ (itCells_at l i hi 1 _ rfl), hc _ _ (itCells_at l i hi 2 _ rfl), hc _ _ (itCells_at l i hi 3 _ rfl)⟩

/-! ### Lines -/
def encLn (x : Ln) (v : Value) : List Value := [.int .i64 x.kind, .string x.name, .int .i64 x.a, .int .i64 x.b, .int .i64 x.c, .string x.other, v]
def lnCells : List Ln → List Value → List Value
  | x :: l, v :: vs => encLn x v ++ lnCells l vs
  | _, _ => []
theorem lnCells_length : ∀ (l : List Ln) (vs : List Value), vs.length = l.length → (lnCells l vs).length = l.length * 7
  | [], [], _ => rfl
  | x :: l, v :: vs, h => by
    have := lnCells_length l vs (by simpa using h)
    rw [lnCells, List.length_append, this]; simp [encLn]; omega
  | [], v :: vs, h => by simp at h
  | x :: l, [], h => by simp at h
theorem lnCells_snoc : ∀ (l : List Ln) (vs : List Value) (x : Ln) (v : Value), vs.length = l.length → lnCells (l ++ [x]) (vs ++ [v]) = lnCells l vs ++ encLn x v
  | [], [], x, v, _ => by simp [lnCells]
  | y :: l, u :: vs, x, v, h => by
    have := lnCells_snoc l vs x v (by simpa using h)
    simp [lnCells, this]
  | [], v :: vs, _, _, h => by simp at h
  | x :: l, [], _, _, h => by simp at h
theorem lnCells_at : ∀ (l : List Ln) (vs : List Value), vs.length = l.length → ∀ (i : Nat), i < l.length → ∀ (j : Nat) (u : Value), (encLn (l.getD i default) (vs.getD i undef))[j]? = some u → (lnCells l vs)[i * 7 + j]? = some u
  | [], [], _, i, h, _, _, _ => by simp at h
  | x :: l, v :: vs, _, 0, _, j, u, hu => by
    have hj : j < 7 := by have := (List.getElem?_eq_some_iff.1 hu).1; simpa [encLn] using this
    rw [lnCells, Nat.zero_mul, Nat.zero_add, List.getElem?_append_left (by simpa [encLn] using hj)]
    simpa using hu
  | x :: l, v :: vs, hl, i + 1, h, j, u, hu => by
    have ih := lnCells_at l vs (by simpa using hl) i (by simpa using h) j u (by simpa using hu)
    rw [lnCells, List.getElem?_append_right (by simp [encLn]; omega)]
    rw [show (i + 1) * 7 + j - (encLn x v).length = i * 7 + j by simp [encLn]; omega]
    exact ih
  | [], v :: vs, h, _, _, _, _, _ => by simp at h
  | x :: l, [], h, _, _, _, _, _ => by simp at h
/-- The ranges of lines lie in memory. -/
def RgsAt (w : World) (l : List Ln) (vs : List Value) : Prop := vs.length = l.length ∧ ∀ i, i < l.length → SpAt w (vs.getD i undef) (l.getD i default).rng ∧ Rg (l.getD i default).rng
theorem RgsAt.below {B : Nat} {w w' : World} {l : List Ln} {vs : List Value} (h : RgsAt w l vs) (hb : Below B w w') (hB : w.heap.size ≤ B) : RgsAt w' l vs := ⟨h.1, fun i hi => ⟨(h.2 i hi).1.below hb hB, (h.2 i hi).2⟩⟩
theorem rgsAt_nil (w : World) : RgsAt w [] [] := ⟨rfl, fun i h => by simp at h⟩
theorem RgsAt.snoc {w : World} {l : List Ln} {vs : List Value} (h : RgsAt w l vs) {x : Ln} {v : Value} (hv : SpAt w v x.rng) (hr : Rg x.rng) : RgsAt w (l ++ [x]) (vs ++ [v]) := by
  refine ⟨by simp [h.1], fun i hi => ?_⟩
  by_cases hl : i < l.length
  · have e1 : (l ++ [x]).getD i default = l.getD i default := by simp [List.getD_eq_getElem?_getD, List.getElem?_append_left hl]
    have e2 : (vs ++ [v]).getD i undef = vs.getD i undef := by simp [List.getD_eq_getElem?_getD, List.getElem?_append_left (show i < vs.length by rw [h.1]; exact hl)]
    rw [e1, e2]; exact h.2 i hl
  · obtain rfl : i = l.length := by simp at hi; omega
    have e1 : (l ++ [x]).getD l.length default = x := by simp [List.getD_eq_getElem?_getD]
    have e2 : (vs ++ [v]).getD l.length undef = v := by simp [List.getD_eq_getElem?_getD, ← h.1]
    rw [e1, e2]; exact ⟨hv, hr⟩
def LnsAt (w : World) (v : Value) (l : List Ln) : Prop := ∃ vs, RgsAt w l vs ∧ RowAt w v l.length (lnCells l vs)
theorem LnsAt.below {B : Nat} {w w' : World} {v : Value} {l : List Ln} (h : LnsAt w v l) (hb : Below B w w') (hB : w.heap.size ≤ B) : LnsAt w' v l := by
  obtain ⟨vs, h1, h2⟩ := h
  exact ⟨vs, h1.below hb hB, h2.below hb hB⟩
theorem LnsAt.at {w : World} {v : Value} {l : List Ln} (h : LnsAt w v l) (i : Nat) (hi : i < l.length) : ∃ g cap rv, v = .slice (some ⟨g, 0, none⟩) l.length cap ∧ g < w.heap.size ∧ SpAt w rv (l.getD i default).rng ∧ Rg (l.getD i default).rng ∧ w.cell? ⟨g, i * 7, none⟩ = some (.int .i64 (l.getD i default).kind) ∧ w.cell? ⟨g, i * 7 + 1, none⟩ = some (.string (l.getD i default).name) ∧ w.cell? ⟨g, i * 7 + 2, none⟩ = some (.int .i64 (l.getD i default).a) ∧ w.cell? ⟨g, i * 7 + 3, none⟩ = some (.int .i64 (l.getD i default).b) ∧ w.cell? ⟨g, i * 7 + 4, none⟩ = some (.int .i64 (l.getD i default).c) ∧ w.cell? ⟨g, i * 7 + 5, none⟩ = some (.string (l.getD i default).other) ∧ w.cell? ⟨g, i * 7 + 6, none⟩ = some rv := by
  obtain ⟨vs, h1, h2⟩ := h
  obtain ⟨g, cap, e, hg, hc⟩ := h2.cells (by omega)
  have H := fun j u hu => hc _ _ (lnCells_at l vs h1.1 i hi j u hu)
  exact ⟨g, cap, vs.getD i undef, e, hg, (h1.2 i hi).1, (h1.2 i hi).2, H 0 _ rfl, H 1 _ rfl, H 2 _ rfl, H 3 _ rfl, H 4 _ rfl, H 5 _ rfl, H 6 _ rfl⟩
end Go.Proofs.YtljeigdkbnichaaGreatDoor
