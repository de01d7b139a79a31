/- Places of pieces; what the reference's RangeParse answers (plain), and its struct of two. -/
import Derived.Test.YthpeifkiaodokaaGreatDoorSvRWord
import Derived.Test.YthpeifkiaodokaaGreatDoorSvRange
import Derived.Test.YthpeifkiaodokaaGreatDoorErAt
namespace Go.Proofs.YthpeifkiaodokaaGreatDoor
open Go.RowKit Go.Shelf Sv

/-- The pieces lie one behind the other. -/
theorem cut_row (s m : ByteArray) : ∀ (f k : Nat), k ≤ s.size → ∀ i, (h : i < (cutB s m f k).length) → (i = 0 → ((cutB s m f k)[i]).1 = k) ∧ ((cutB s m f k)[i]).1 + ((cutB s m f k)[i]).2.size ≤ s.size ∧ (∀ h2 : i + 1 < (cutB s m f k).length, ((cutB s m f k)[i + 1]).1 = ((cutB s m f k)[i]).1 + ((cutB s m f k)[i]).2.size + m.size) := by
  intro f
  induction f with
  | zero =>
    intro k hk i h
    have e : cutB s m 0 k = [(k, s.extract k s.size)] := rfl
    simp only [e] at h ⊢
    simp only [List.length_singleton] at h
    obtain rfl : i = 0 := by omega
    refine ⟨fun _ => rfl, ?_, fun h2 => by simp at h2⟩
    simp; omega
  | succ f ih =>
    intro k hk i h
    by_cases hn : Lib.index (s.extract k s.size).data.toList m.data.toList < 0
    · have e := cutB_end hn (f + 1)
      simp only [e] at h ⊢
      simp only [List.length_singleton] at h
      obtain rfl : i = 0 := by omega
      refine ⟨fun _ => rfl, ?_, fun h2 => by simp at h2⟩
      simp; omega
    · obtain ⟨j, hj⟩ : ∃ j : Nat, Lib.index (s.extract k s.size).data.toList m.data.toList = (j : Int) := ⟨(Lib.index (s.extract k s.size).data.toList m.data.toList).toNat, by omega⟩
      have hroom := index_room (s.extract k s.size).data.toList m.data.toList (by omega)
      rw [hj] at hroom
      have hrl : (s.extract k s.size).data.toList.length = s.size - k := by
        show (s.extract k s.size).data.toList.length = _
        rw [Array.length_toList]
        show (s.extract k s.size).size = _
        simp
      have hml : m.data.toList.length = m.size := by rw [Array.length_toList]; rfl
      rw [hrl, hml] at hroom
      simp only [Int.toNat_natCast] at hroom
      have e := cutB_step (f := f) hj
      simp only [e] at h ⊢
      have hih := ih (k + j + m.size) (by omega)
      cases i with
      | zero =>
        refine ⟨fun _ => rfl, ?_, fun h2 => ?_⟩
        · simp; omega
        · simp only [List.getElem_cons_zero, List.getElem_cons_succ]
          have := (hih 0 (by simpa using h2)).1 rfl
          rw [this]
          simp; omega
      | succ i =>
        refine ⟨fun h0 => by omega, ?_, fun h2 => ?_⟩
        · simp only [List.getElem_cons_succ]
          exact (hih i (by simpa using h)).2.1
        · simp only [List.getElem_cons_succ]
          exact (hih i (by simpa using h)).2.2 (by simpa using h2)
def px (L : List (Nat × ByteArray)) (k : Nat) : Nat × ByteArray := L.getD k (0, ⟨#[]⟩)
theorem px_at (L : List (Nat × ByteArray)) (k : Nat) (h : k < L.length) : px L k = L[k] := by unfold px; simp [List.getD_eq_getElem?_getD, List.getElem?_eq_getElem h]
structure Cuts (s m : ByteArray) (L : List (Nat × ByteArray)) : Prop where
  pos : 0 < L.length
  len : L.length ≤ s.size + 1
  first : (px L 0).1 = 0
  room : ∀ k, k < L.length → (px L k).1 + (px L k).2.size ≤ s.size
  next : ∀ k, k + 1 < L.length → (px L (k + 1)).1 = (px L k).1 + (px L k).2.size + m.size
theorem cuts_of (s m : ByteArray) : Cuts s m (cutB s m s.size 0) := by
  refine ⟨cutB_pos _ _ _ _, by have := cutB_len s m s.size 0; omega, ?_, fun k hk => ?_, fun k hk => ?_⟩
  · rw [px_at _ _ (cutB_pos _ _ _ _)]; exact (cut_row s m s.size 0 (Nat.zero_le _) 0 (cutB_pos _ _ _ _)).1 rfl
  · rw [px_at _ _ hk]; exact (cut_row s m s.size 0 (Nat.zero_le _) k hk).2.1
  · rw [px_at _ _ hk, px_at _ _ (by omega)]; exact (cut_row s m s.size 0 (Nat.zero_le _) k (by omega)).2.2 hk

/-- Words, one more. -/
theorem words_take {L : List (Nat × ByteArray)} {k : Nat} {st : List Span × Nat} (hk : k < L.length) (h : wordsF (L.take k) (anyF, 0) = .ok st) : wordsF (L.take (k + 1)) (anyF, 0) = if (px L k).2.toList = [] then .ok st else match wordF (px L k).2 with
    | .error q => .error (q, (px L k).1)
    | .ok l => .ok (nd st.1 l, st.2 + 1) := by
  rw [List.take_succ_eq_append_getElem hk, wordsF_app, h, px_at L k hk]
  show wordsF [L[k]] st = _
  unfold wordsF
  split
  · rfl
  · cases wordF L[k].2 with
    | error q => rfl
    | ok l => rfl
theorem words_err {L : List (Nat × ByteArray)} {k : Nat} {q : Int × Nat} (h : wordsF (L.take k) (anyF, 0) = .error q) : wordsF L (anyF, 0) = .error q := by
  have := wordsF_app (L.take k) (L.drop k) (anyF, 0)
  rw [List.take_append_drop, h] at this
  exact this
theorem pieces_take {L : List (Nat × ByteArray)} {k : Nat} {acc : List Span} (hk : k < L.length) (h : piecesF (L.take k) [] = .ok acc) : piecesF (L.take (k + 1)) [] = match pieceF (px L k).2 (px L k).1 with
    | .error q => .error q
    | .ok l => .ok (orr acc l) := by
  rw [List.take_succ_eq_append_getElem hk, piecesF_app, h, px_at L k hk]
  show piecesF [L[k]] acc = _
  unfold piecesF
  cases pieceF L[k].2 L[k].1 with
  | error q => rfl
  | ok l => rfl
theorem pieces_err {L : List (Nat × ByteArray)} {k : Nat} {q : Int × Nat} (h : piecesF (L.take k) [] = .error q) : piecesF L [] = .error q := by
  have := piecesF_app (L.take k) (L.drop k) []
  rw [List.take_append_drop, h] at this
  exact this

/-- solspaceref.Fine is laid as the program's text lays it. -/
structure FineR (w : World) : Prop where
  c0 : w.cell? ⟨0, 0, none⟩ = some (.int .i64 0)
  c1 : w.cell? ⟨0, 1, none⟩ = some (.int .i64 (-1))
  lt : 0 < w.heap.size
theorem FineR.below {w w' : World} (h : FineR w) (hb : Below w.heap.size w w') : FineR w' := ⟨(hb.cell (p := ⟨0, 0, none⟩) h.lt).trans h.c0, (hb.cell (p := ⟨0, 1, none⟩) h.lt).trans h.c1, Nat.lt_of_lt_of_le h.lt hb.size⟩
def RpOk (m : List Nat) (k p : Int) : Except (Int × Nat) (List Span) → Prop
  | .ok l => m = tp l ∧ k = 0 ∧ p = -1
  | .error (q, i) => m = [] ∧ k = q ∧ p = (i : Int)
def RpOut (w : World) (x : Except (Int × Nat) (List Span)) (e : Ending) (w' : World) : Prop := ∃ (m : List Nat) (a : Option Addr) (c : Nat) (k p : Int), e = .returned (.tuple #[.slice a m.length c, .agg #[.int .i64 k, .int .i64 p]]) ∧ NsAt w' (.slice a m.length c) m ∧ (∀ g, (Value.slice a m.length c).ownBlock = some g → w.heap.size ≤ g) ∧ Below w.heap.size w w' ∧ RpOk m k p x
end Go.Proofs.YthpeifkiaodokaaGreatDoor
