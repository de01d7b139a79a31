/- Four ints. -/
import Derived.Test.YtacgoopgifoojabArBase
namespace Go.Proofs.Ytacgoopgifoojab

structure Quad where
  a : Int
  b : Int
  c : Int
  d : Int
  deriving Inhabited
end Go.Proofs.Ytacgoopgifoojab
