/- Four ints. -/
import Derived.Test.YtfodcmcmbjopaabDoorArBase
namespace Go.Proofs.YtfodcmcmbjopaabDoor

structure Quad where
  a : Int
  b : Int
  c : Int
  d : Int
  deriving Inhabited
end Go.Proofs.YtfodcmcmbjopaabDoor
