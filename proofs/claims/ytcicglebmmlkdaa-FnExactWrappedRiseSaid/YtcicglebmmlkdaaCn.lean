
import Derived.Test.YtcicglebmmlkdaaCc
import Derived.Test.YtcicglebmmlkdaaSu
namespace Go.Proofs.Ytcicglebmmlkdaa
open Go.RowKit BitX

end Go.Proofs.Ytcicglebmmlkdaa
