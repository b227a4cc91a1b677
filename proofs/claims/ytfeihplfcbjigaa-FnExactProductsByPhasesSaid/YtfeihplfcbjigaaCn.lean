
import Derived.Test.YtfeihplfcbjigaaCc
import Derived.Test.YtfeihplfcbjigaaSu
namespace Go.Proofs.Ytfeihplfcbjigaa
open Go.RowKit BitX

end Go.Proofs.Ytfeihplfcbjigaa
