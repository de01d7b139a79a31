/- Four ints. -/
import Derived.Test.YtfodcmcmbjopaabArBase
namespace Go.Proofs.Ytfodcmcmbjopaab

structure Quad where
  a : Int
  b : Int
  c : Int
  d : Int
  deriving Inhabited
end Go.Proofs.Ytfodcmcmbjopaab
