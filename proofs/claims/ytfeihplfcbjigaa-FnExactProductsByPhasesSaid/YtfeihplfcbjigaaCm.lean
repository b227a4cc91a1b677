
import Derived.Test.YtfeihplfcbjigaaCn
import Derived.Test.YtfeihplfcbjigaaCs
namespace Go.Proofs.Ytfeihplfcbjigaa
open Go.RowKit BitX Go.ShX

end Go.Proofs.Ytfeihplfcbjigaa
