
import Derived.Test.YtaihopcmckkpbaaProg
import Derived.Test.YtaihopcmckkpbaaMem
namespace Go.Proofs.Ytaihopcmckkpbaa.Su
open Go.RowKit Go.MemX

end Go.Proofs.Ytaihopcmckkpbaa.Su
