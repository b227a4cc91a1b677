
import Derived.Test.YtfeihplfcbjigaaProg
import Derived.Test.YtfeihplfcbjigaaMem
namespace Go.Proofs.Ytfeihplfcbjigaa.Su
open Go.RowKit Go.MemX

end Go.Proofs.Ytfeihplfcbjigaa.Su
