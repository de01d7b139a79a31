/- Four ints. -/
import Derived.Test.YtacgoopgifoojaaArBase
namespace Go.Proofs.Ytacgoopgifoojaa

structure Quad where
  a : Int
  b : Int
  c : Int
  d : Int
  deriving Inhabited
end Go.Proofs.Ytacgoopgifoojaa
