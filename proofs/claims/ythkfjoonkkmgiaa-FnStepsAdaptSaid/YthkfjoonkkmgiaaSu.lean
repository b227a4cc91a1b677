
import Derived.Test.YthkfjoonkkmgiaaProg
import Derived.Test.YthkfjoonkkmgiaaMem
namespace Go.Proofs.Ythkfjoonkkmgiaa.Su
open Go.RowKit Go.MemX

end Go.Proofs.Ythkfjoonkkmgiaa.Su
