
import Derived.Test.YthbjfidcaabliaaCn
import Derived.Test.YthbjfidcaabliaaCs
namespace Go.Proofs.Ythbjfidcaabliaa
open Go.RowKit BitX Go.ShX

end Go.Proofs.Ythbjfidcaabliaa
