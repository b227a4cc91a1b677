
import Derived.Test.YtfcfggjallokgaaCn
import Derived.Test.YtfcfggjallokgaaCs
namespace Go.Proofs.Ytfcfggjallokgaa
open Go.RowKit BitX Go.ShX

end Go.Proofs.Ytfcfggjallokgaa
