
import Derived.Test.YthnokpeimbajjaaCc
import Derived.Test.YthnokpeimbajjaaSu
namespace Go.Proofs.Ythnokpeimbajjaa
open Go.RowKit BitX

end Go.Proofs.Ythnokpeimbajjaa
