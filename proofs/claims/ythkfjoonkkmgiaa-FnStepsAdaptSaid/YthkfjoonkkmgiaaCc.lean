
import Derived.Test.YthkfjoonkkmgiaaCa
namespace Go.Proofs.Ythkfjoonkkmgiaa
open Go.RowKit BitX
theorem bel_undrew {X w : World} (h : Below X.drew.heap.size X.drew w) : Below X.heap.size X w := (Below.refl _ X).drew.trans h

end Go.Proofs.Ythkfjoonkkmgiaa
