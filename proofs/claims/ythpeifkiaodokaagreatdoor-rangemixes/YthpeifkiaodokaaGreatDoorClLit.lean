/- What literals say of values: plain. -/
import Derived.Test.YthpeifkiaodokaaGreatDoorClLiteral
import Derived.WalkSmall
namespace Go.Proofs.YthpeifkiaodokaaGreatDoor
open Go.RowKit

/-- What a literal says of values. -/
def litH (vals : Nat) (x : Int) : Bool := if 0 < x then vals.testBit (x.toNat - 1) else !vals.testBit ((-x).toNat - 1)
/-- As Holds has it: nothing holds of what is no literal. -/
def litK (vals : Nat) (x : Int) : Bool := litB 24 x && litH vals x
def holdK (vals : Nat) (c : List Int) : Bool := c.any (litK vals)

theorem shr_bit1 (vals t : Nat) (hv : vals < 18446744073709551616) : (bits BinOp.and IntKind.u64 ((vals : Int) / 2 ^ t) 1 == 1) = vals.testBit t := by
  have e : (vals : Int) / 2 ^ t = ((vals / 2 ^ t : Nat) : Int) := by simp
  have hd : vals / 2 ^ t ≤ vals := Nat.div_le_self _ _
  rw [e, Nat.testBit_eq_decide_div_mod_eq]
  generalize vals / 2 ^ t = m at *
  rw [and_one_u64 _ (by omega) (by omega), Bool.eq_iff_iff]
  simp
  omega
theorem shr_bit0 (vals t : Nat) (hv : vals < 18446744073709551616) : (bits BinOp.and IntKind.u64 ((vals : Int) / 2 ^ t) 1 == 0) = !vals.testBit t := by
  have e : (vals : Int) / 2 ^ t = ((vals / 2 ^ t : Nat) : Int) := by simp
  have hd : vals / 2 ^ t ≤ vals := Nat.div_le_self _ _
  rw [e, Nat.testBit_eq_decide_div_mod_eq]
  generalize vals / 2 ^ t = m at *
  rw [and_one_u64 _ (by omega) (by omega), Bool.eq_iff_iff]
  simp
  omega

end Go.Proofs.YthpeifkiaodokaaGreatDoor
