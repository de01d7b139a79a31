/- Four ints. -/
import Derived.Test.YtdnojfkncpkkmaaArBase
namespace Go.Proofs.Ytdnojfkncpkkmaa

structure Quad where
  a : Int
  b : Int
  c : Int
  d : Int
  deriving Inhabited
end Go.Proofs.Ytdnojfkncpkkmaa
