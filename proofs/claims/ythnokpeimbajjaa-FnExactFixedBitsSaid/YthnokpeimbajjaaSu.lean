
import Derived.Test.YthnokpeimbajjaaProg
import Derived.Test.YthnokpeimbajjaaMem
namespace Go.Proofs.Ythnokpeimbajjaa.Su
open Go.RowKit Go.MemX

end Go.Proofs.Ythnokpeimbajjaa.Su
