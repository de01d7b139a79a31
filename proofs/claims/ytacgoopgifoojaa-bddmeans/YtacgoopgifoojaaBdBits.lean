/- Bits of numbers below 64: one of them set, one of them cleared. -/
import Derived.Test.YtacgoopgifoojaaBdTab
namespace Go.Proofs.Ytacgoopgifoojaa
open Go.RowKit Go.Maps

theorem or_fin : ∀ i : Fin 64, ∀ v : Fin 6, bits .or .i64 (i.val : Int) ((2 : Int) ^ v.val) = ((i.val ||| 1 <<< v.val : Nat) : Int) := by decide +kernel
theorem or_lt_fin : ∀ n : Fin 7, ∀ i : Fin 64, ∀ v : Fin 6, v.val < n.val → i.val < 2 ^ n.val → i.val ||| 1 <<< v.val < 2 ^ n.val := by decide +kernel
theorem off_fin : ∀ i : Fin 64, ∀ v : Fin 6, 0 ≤ bits .andNot .i64 (i.val : Int) ((2 : Int) ^ v.val) ∧ (bits .andNot .i64 (i.val : Int) ((2 : Int) ^ v.val)).toNat ≤ i.val ∧ ∀ k : Fin 6, (bits .andNot .i64 (i.val : Int) ((2 : Int) ^ v.val)).toNat.testBit k.val = if k.val = v.val then false else i.val.testBit k.val := by decide +kernel
theorem bit_fin : ∀ i : Fin 64, ∀ v : Fin 6, (bits .and .i64 ((i.val : Int) / 2 ^ v.val) 1 == 1) = i.val.testBit v.val := by decide +kernel

theorem pow_le6 {vars : Nat} (h6 : vars ≤ 6) : 2 ^ vars ≤ 64 := Nat.pow_le_pow_right (n := 2) (by omega) h6
theorem big_bit {x k : Nat} (hx : x < 64) (hk : 6 ≤ k) : x.testBit k = false := Nat.testBit_lt_two_pow (Nat.lt_of_lt_of_le hx (Nat.pow_le_pow_right (n := 2) (by omega) hk))

/-- One bit is set. -/
theorem on_num {i v vars : Nat} (hi : i < 2 ^ vars) (hv : v < vars) (h6 : vars ≤ 6) : bits .or .i64 (i : Int) ((2 : Int) ^ v) = ((i ||| 1 <<< v : Nat) : Int) ∧ i ||| 1 <<< v < 2 ^ vars := by
  have := pow_le6 h6
  exact ⟨or_fin ⟨i, by omega⟩ ⟨v, by omega⟩, or_lt_fin ⟨vars, by omega⟩ ⟨i, by omega⟩ ⟨v, by omega⟩ hv hi⟩

/-- One bit is cleared. -/
def offN (i v : Nat) : Nat := (bits .andNot .i64 (i : Int) ((2 : Int) ^ v)).toNat
theorem off_num {i v vars : Nat} (hi : i < 2 ^ vars) (hv : v < vars) (h6 : vars ≤ 6) : bits .andNot .i64 (i : Int) ((2 : Int) ^ v) = (offN i v : Int) ∧ offN i v < 2 ^ vars := by
  have := pow_le6 h6
  obtain ⟨h1, h2, -⟩ := off_fin ⟨i, by omega⟩ ⟨v, by omega⟩
  simp only at h1 h2
  unfold offN
  exact ⟨by omega, by omega⟩
theorem bits_off {i v vars : Nat} (hi : i < 2 ^ vars) (hv : v < vars) (h6 : vars ≤ 6) : bitsF (offN i v) = turn (bitsF i) v false := by
  have p6 := pow_le6 h6
  obtain ⟨h1, h2, h3⟩ := off_fin ⟨i, by omega⟩ ⟨v, by omega⟩
  simp only at h1 h2 h3
  funext k
  unfold bitsF turn offN
  by_cases hk : k < 6
  · have := h3 ⟨k, hk⟩
    simp only at this
    rw [this]
  · have q1 : (bits BinOp.andNot IntKind.i64 (i : Int) (2 ^ v)).toNat.testBit k = false := big_bit (by omega) (by omega)
    have q2 : i.testBit k = false := big_bit (by omega) (by omega)
    show _ = if k = v then false else i.testBit k
    rw [q1, q2]
    split <;> rfl
theorem bit_num {i v : Nat} (hi : i < 64) (hv : v < 6) : (bits .and .i64 ((i : Int) / 2 ^ v) 1 == 1) = bitsF i v := bit_fin ⟨i, hi⟩ ⟨v, hv⟩
end Go.Proofs.Ytacgoopgifoojaa
