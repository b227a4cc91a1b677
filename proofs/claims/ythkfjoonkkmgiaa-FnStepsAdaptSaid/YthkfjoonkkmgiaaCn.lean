
import Derived.Test.YthkfjoonkkmgiaaCc
import Derived.Test.YthkfjoonkkmgiaaSu
namespace Go.Proofs.Ythkfjoonkkmgiaa
open Go.RowKit BitX

end Go.Proofs.Ythkfjoonkkmgiaa
