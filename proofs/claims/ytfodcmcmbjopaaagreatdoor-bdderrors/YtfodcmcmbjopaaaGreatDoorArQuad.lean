/- Four ints. -/
import Derived.Test.YtfodcmcmbjopaaaGreatDoorArBase
namespace Go.Proofs.YtfodcmcmbjopaaaGreatDoor

structure Quad where
  a : Int
  b : Int
  c : Int
  d : Int
  deriving Inhabited
end Go.Proofs.YtfodcmcmbjopaaaGreatDoor
