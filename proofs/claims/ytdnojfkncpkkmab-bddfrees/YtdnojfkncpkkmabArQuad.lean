/- Four ints. -/
import Derived.Test.YtdnojfkncpkkmabArBase
namespace Go.Proofs.Ytdnojfkncpkkmab

structure Quad where
  a : Int
  b : Int
  c : Int
  d : Int
  deriving Inhabited
end Go.Proofs.Ytdnojfkncpkkmab
