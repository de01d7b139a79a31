/- Four ints. -/
import Derived.Test.YtiimdhmbbmkbfaaGreatDoorArBase
namespace Go.Proofs.YtiimdhmbbmkbfaaGreatDoor

structure Quad where
  a : Int
  b : Int
  c : Int
  d : Int
  deriving Inhabited
end Go.Proofs.YtiimdhmbbmkbfaaGreatDoor
