/- Four ints. -/
import Derived.Test.YtfodcmcmbjopaaaDoorArBase
namespace Go.Proofs.YtfodcmcmbjopaaaDoor

structure Quad where
  a : Int
  b : Int
  c : Int
  d : Int
  deriving Inhabited
end Go.Proofs.YtfodcmcmbjopaaaDoor
