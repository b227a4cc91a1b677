
import Derived.Test.YtemlcgfmaikljaaProg
import Derived.Test.YtemlcgfmaikljaaMem
namespace Go.Proofs.Ytemlcgfmaikljaa.Su
open Go.RowKit Go.MemX

end Go.Proofs.Ytemlcgfmaikljaa.Su
