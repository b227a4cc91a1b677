
import Derived.Test.YtcicglebmmlkdaaProg
import Derived.Test.YtcicglebmmlkdaaMem
namespace Go.Proofs.Ytcicglebmmlkdaa.Su
open Go.RowKit Go.MemX

end Go.Proofs.Ytcicglebmmlkdaa.Su
