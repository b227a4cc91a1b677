
import Derived.Test.YthbjfidcaabliaaCc
import Derived.Test.YthbjfidcaabliaaSu
namespace Go.Proofs.Ythbjfidcaabliaa
open Go.RowKit BitX

end Go.Proofs.Ythbjfidcaabliaa
