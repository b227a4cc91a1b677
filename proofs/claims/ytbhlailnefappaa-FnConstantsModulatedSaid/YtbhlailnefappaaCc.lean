
import Derived.Test.YtbhlailnefappaaCa
namespace Go.Proofs.Ytbhlailnefappaa
open Go.RowKit BitX
theorem bel_undrew {X w : World} (h : Below X.drew.heap.size X.drew w) : Below X.heap.size X w := (Below.refl _ X).drew.trans h

end Go.Proofs.Ytbhlailnefappaa
