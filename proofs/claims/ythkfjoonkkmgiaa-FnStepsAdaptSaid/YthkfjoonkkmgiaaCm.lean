
import Derived.Test.YthkfjoonkkmgiaaCn
import Derived.Test.YthkfjoonkkmgiaaCs
namespace Go.Proofs.Ythkfjoonkkmgiaa
open Go.RowKit BitX Go.ShX

end Go.Proofs.Ythkfjoonkkmgiaa
