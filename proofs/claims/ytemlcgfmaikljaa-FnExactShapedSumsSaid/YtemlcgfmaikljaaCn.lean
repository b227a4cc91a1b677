
import Derived.Test.YtemlcgfmaikljaaCc
import Derived.Test.YtemlcgfmaikljaaSu
namespace Go.Proofs.Ytemlcgfmaikljaa
open Go.RowKit BitX

end Go.Proofs.Ytemlcgfmaikljaa
