
import Derived.Test.YtfcfggjallokgaaProg
import Derived.Test.YtfcfggjallokgaaMem
namespace Go.Proofs.Ytfcfggjallokgaa.Su
open Go.RowKit Go.MemX

end Go.Proofs.Ytfcfggjallokgaa.Su
