
import Derived.Test.YtbekmfhcbcgfgaaProg
import Derived.Test.YtbekmfhcbcgfgaaMem
namespace Go.Proofs.Ytbekmfhcbcgfgaa.Su
open Go.RowKit Go.MemX

end Go.Proofs.Ytbekmfhcbcgfgaa.Su
