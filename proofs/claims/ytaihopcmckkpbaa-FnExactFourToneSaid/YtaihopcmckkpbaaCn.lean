
import Derived.Test.YtaihopcmckkpbaaCc
import Derived.Test.YtaihopcmckkpbaaSu
namespace Go.Proofs.Ytaihopcmckkpbaa
open Go.RowKit BitX

end Go.Proofs.Ytaihopcmckkpbaa
