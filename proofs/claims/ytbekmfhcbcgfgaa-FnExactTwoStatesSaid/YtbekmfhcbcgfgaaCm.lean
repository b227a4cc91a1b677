
import Derived.Test.YtbekmfhcbcgfgaaCn
import Derived.Test.YtbekmfhcbcgfgaaCs
namespace Go.Proofs.Ytbekmfhcbcgfgaa
open Go.RowKit BitX Go.ShX

end Go.Proofs.Ytbekmfhcbcgfgaa
