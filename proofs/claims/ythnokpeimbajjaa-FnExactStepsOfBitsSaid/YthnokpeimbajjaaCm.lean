
import Derived.Test.YthnokpeimbajjaaCn
import Derived.Test.YthnokpeimbajjaaCs
namespace Go.Proofs.Ythnokpeimbajjaa
open Go.RowKit BitX Go.ShX

end Go.Proofs.Ythnokpeimbajjaa
