/- The reference's text of a version, plain: blanks turned into dots. -/
import Derived.Test.YtbohpflbifoohaaGreatDoorSvWText
import Derived.Lib.Replace
namespace Go.Proofs.YtbohpflbifoohaaGreatDoor
open Go.RowKit Go.Shelf Sv

theorem dec_digit : ∀ (u : Nat), ∀ x ∈ Lib.decDigits u, 48 ≤ x ∧ x ≤ 57 := by
  have hd : ∀ d : Fin 10, (48 : UInt8) ≤ UInt8.ofNat (48 + d.val) ∧ UInt8.ofNat (48 + d.val) ≤ 57 := by decide
  intro u
  induction u using Nat.strongRecOn with
  | _ u ih =>
    intro x hx
    rw [Lib.decDigits] at hx
    split at hx
    · rename_i h
      simp only [List.mem_singleton] at hx
      subst hx
      exact hd ⟨u, h⟩
    · rcases List.mem_append.1 hx with hx | hx
      · exact ih (u / 10) (by omega) x hx
      · simp only [List.mem_singleton] at hx
        subst hx
        exact hd ⟨u % 10, Nat.mod_lt _ (by omega)⟩
theorem itoa_no (n : Int) : (32 : UInt8) ∉ Lib.itoa n := by
  have h : ∀ u, (32 : UInt8) ∉ Lib.decDigits u := fun u hx => absurd (dec_digit u 32 hx).1 (by decide)
  unfold Lib.itoa
  split
  · intro hx
    rcases List.mem_cons.1 hx with hx | hx
    · revert hx; decide
    · exact h _ hx
  · exact h _
theorem drop_first (x y : List UInt8) (c : UInt8) : (x ++ c :: y).drop (x.length + 1) = y := by
  rw [show x ++ c :: y = (x ++ [c]) ++ y by simp, show x.length + 1 = (x ++ [c]).length by simp, List.drop_left]
theorem repl_one {x y : List UInt8} (hx : (32 : UInt8) ∉ x) (k : Nat) : Lib.replaceK [32] [46] (k + 1) (x ++ 32 :: y) = x ++ 46 :: Lib.replaceK [32] [46] k y := by
  rw [Lib.replaceK_hit _ _ k _ x.length (index_first hx), List.take_left' rfl]
  show x ++ [46] ++ Lib.replaceK [32] [46] k ((x ++ 32 :: y).drop (x.length + 1)) = _
  rw [drop_first]
  simp
theorem count_one {x y : List UInt8} (hx : (32 : UInt8) ∉ x) : Lib.count (x ++ 32 :: y) [32] = 1 + Lib.count y [32] := by
  rw [Lib.count_hit (by simp) (index_first hx)]
  show 1 + Lib.count ((x ++ 32 :: y).drop (x.length + 1)) [32] = _
  rw [drop_first]
theorem count_none {x : List UInt8} (hx : (32 : UInt8) ∉ x) : Lib.count x [32] = 0 := by
  have h1 := index_none hx
  have h2 := Lib.index_ge x [32]
  exact Lib.count_miss (by omega)
theorem text_repl (a b c : Int) : Lib.replaceAll (Lib.itoa a ++ 32 :: (Lib.itoa b ++ 32 :: Lib.itoa c)) [32] [46] = wtx a b c := by
  unfold Lib.replaceAll Lib.replace Lib.replaceNum
  rw [if_neg (by decide), if_pos (.inl (by decide)), count_one (itoa_no a), count_one (itoa_no b), count_none (itoa_no c)]
  show Lib.replaceK [32] [46] (1 + 1) _ = _
  rw [repl_one (itoa_no a), repl_one (itoa_no b)]
  rfl
end Go.Proofs.YtbohpflbifoohaaGreatDoor
