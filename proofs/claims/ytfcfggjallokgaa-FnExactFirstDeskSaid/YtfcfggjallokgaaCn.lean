
import Derived.Test.YtfcfggjallokgaaCc
import Derived.Test.YtfcfggjallokgaaSu
namespace Go.Proofs.Ytfcfggjallokgaa
open Go.RowKit BitX

end Go.Proofs.Ytfcfggjallokgaa
