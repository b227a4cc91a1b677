
import Derived.Test.YtbekmfhcbcgfgaaCc
import Derived.Test.YtbekmfhcbcgfgaaSu
namespace Go.Proofs.Ytbekmfhcbcgfgaa
open Go.RowKit BitX

end Go.Proofs.Ytbekmfhcbcgfgaa
