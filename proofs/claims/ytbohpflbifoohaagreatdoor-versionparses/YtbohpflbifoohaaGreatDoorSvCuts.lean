/- How many pieces there are between marks of one byte; the parts of a version. -/
import Derived.Test.YtbohpflbifoohaaGreatDoorSvPart
import Derived.Test.YtbohpflbifoohaaGreatDoorSvBlk
namespace Go.Proofs.YtbohpflbifoohaaGreatDoor
open Go.RowKit Go.Shelf Sv

theorem index_byte : ∀ (l : List UInt8) (c : UInt8), (Lib.index l [c] < 0 ∧ l.count c = 0) ∨ ∃ j : Nat, Lib.index l [c] = (j : Int) ∧ l.count c = (l.drop (j + 1)).count c + 1 := by
  intro l c
  induction l with
  | nil => exact .inl ⟨by simp [Lib.index], by simp⟩
  | cons b l ih =>
    by_cases h : c = b
    · subst h
      refine .inr ⟨0, ?_, by simp⟩
      unfold Lib.index
      simp [List.isPrefixOf]
    · have hp : List.isPrefixOf [c] (b :: l) = false := by simp [List.isPrefixOf, h]
      have hcount : (b :: l).count c = l.count c := List.count_cons_of_ne (by simpa using fun e => h e.symm)
      rcases ih with ⟨h1, h2⟩ | ⟨j, h1, h2⟩
      · refine .inl ⟨?_, by rw [hcount, h2]⟩
        have : Lib.index l [c] = -1 := by have := Lib.index_ge l [c]; omega
        unfold Lib.index
        rw [hp, this]; simp
      · refine .inr ⟨j + 1, ?_, by rw [hcount, h2]; simp⟩
        unfold Lib.index
        rw [hp, h1]
        simp

theorem cuts_count (s : ByteArray) (c : UInt8) : ∀ (f k : Nat), s.size ≤ k + f → k ≤ s.size → (cutB s ⟨#[c]⟩ f k).length = (s.data.toList.drop k).count c + 1 := by
  intro f
  induction f with
  | zero =>
    intro k h1 h2
    obtain rfl : k = s.size := by omega
    have : s.data.toList.drop s.size = [] := List.drop_eq_nil_of_le (by simp)
    rw [this]; simp [cutB]
  | succ f ih =>
    intro k h1 h2
    have hx : (s.extract k s.size).data.toList = s.data.toList.drop k := Lib.extract_to_end s k
    have hl : s.data.toList.length = s.size := by simp
    rcases index_byte (s.data.toList.drop k) c with ⟨h3, h4⟩ | ⟨j, h3, h4⟩
    · rw [cutB_end (by rw [hx]; exact h3), h4]; rfl
    · rw [cutB_step (j := j) (by rw [hx]; exact h3), List.length_cons]
      have hr := index_room (s.data.toList.drop k) [c] (by rw [h3]; omega)
      rw [h3] at hr
      simp only [List.length_drop, List.length_cons, List.length_nil, Int.toNat_natCast, hl] at hr
      have hm : (⟨#[c]⟩ : ByteArray).size = 1 := rfl
      rw [ih _ (by rw [hm]; omega) (by rw [hm]; omega), h4, hm, List.drop_drop]
      congr 3

/-- What parts tell, one behind the other. -/
def partsF : List (Nat × ByteArray) → Except Int (List Nat)
  | [] => .ok []
  | x :: r => match partF x.2.data.toList with
    | .error k => .error k
    | .ok n => match partsF r with
      | .error k => .error k
      | .ok ns => .ok (n :: ns)
theorem partsF_len : ∀ {l : List (Nat × ByteArray)} {ns : List Nat}, partsF l = .ok ns → ns.length = l.length := by
  intro l
  induction l with
  | nil => intro ns h; cases h; rfl
  | cons x r ih =>
    intro ns h
    unfold partsF at h
    split at h
    · cases h
    · split at h
      · cases h
      · rename_i ns' h'
        cases h
        simp [ih h']
theorem partsF_app_error {l r : List (Nat × ByteArray)} {k : Int} (h : partsF l = .error k) : partsF (l ++ r) = .error k := by
  induction l with
  | nil => cases h
  | cons x l ih =>
    unfold partsF at h
    rw [List.cons_append, partsF]
    split at h
    · exact h
    · split at h
      · rename_i h''; cases h; rw [ih h'']
      · cases h
theorem partsF_snoc {l : List (Nat × ByteArray)} {ns : List Nat} (h : partsF l = .ok ns) (x : Nat × ByteArray) : partsF (l ++ [x]) = match partF x.2.data.toList with
    | .error k => .error k
    | .ok n => .ok (ns ++ [n]) := by
  induction l generalizing ns with
  | nil =>
    cases h
    rw [List.nil_append, partsF]
    cases partF x.2.data.toList <;> rfl
  | cons y l ih =>
    unfold partsF at h
    rw [List.cons_append, partsF]
    split at h
    · cases h
    · split at h
      · cases h
      · rename_i h''
        cases h
        rw [ih h'']
        cases partF x.2.data.toList <;> rfl

/-- What a version's text tells. -/
def versF (s : ByteArray) : Except Int (List Nat) := if s.data.toList.count 46 = 2 then partsF (cutB s ⟨#[46]⟩ s.size 0) else .error 3
def vArr (ns : List Nat) : Array Value := #[.int .i64 ((ns.getD 0 0 : Nat) : Int), .int .i64 ((ns.getD 1 0 : Nat) : Int), .int .i64 ((ns.getD 2 0 : Nat) : Int)]
def versV : Except Int (List Nat) → Value
  | .ok ns => .tuple #[.agg (vArr ns), .nilIface]
  | .error k => .tuple #[.agg #[.int .i64 0, .int .i64 0, .int .i64 0], .iface 25 (.int .i64 k)]
theorem partF_lt {l : List UInt8} {n : Nat} (h : partF l = .ok n) : n ≤ 999 := by
  unfold partF at h
  split at h
  · split at h
    · cases h
    · split at h
      · cases h
      · cases h; omega
  · cases h
theorem partsF_lt : ∀ {l : List (Nat × ByteArray)} {ns : List Nat}, partsF l = .ok ns → ∀ n ∈ ns, n ≤ 999 := by
  intro l
  induction l with
  | nil => intro ns h n hn; cases h; cases hn
  | cons x r ih =>
    intro ns h n hn
    unfold partsF at h
    split at h
    · cases h
    · rename_i h0
      split at h
      · cases h
      · rename_i ns' h'
        cases h
        rcases List.mem_cons.1 hn with rfl | hn
        · exact partF_lt h0
        · exact ih h' n hn
theorem versF_len {s : ByteArray} {ns : List Nat} (h : versF s = .ok ns) : ns.length = 3 ∧ ∀ n ∈ ns, n ≤ 999 := by
  unfold versF at h
  split at h
  · rename_i hc
    refine ⟨?_, partsF_lt h⟩
    rw [partsF_len h, cuts_count s 46 s.size 0 (by omega) (Nat.zero_le _), List.drop_zero, hc]
  · cases h
end Go.Proofs.YtbohpflbifoohaaGreatDoor
