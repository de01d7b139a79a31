/- A place among n. -/
import Derived.Test.YtiimdhmbbmkbfaaGreatDoorArNewA
namespace Go.Proofs.YtiimdhmbbmkbfaaGreatDoor
open Go.RowKit Go.Maps

def pickV (x : Int) (n : Nat) : Nat := ((x % 18446744073709551616).toNat) % n
theorem pickV_lt (x : Int) {n : Nat} (h : 0 < n) : pickV x n < n := Nat.mod_lt _ h

end Go.Proofs.YtiimdhmbbmkbfaaGreatDoor
