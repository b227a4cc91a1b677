
import Derived.Test.YtcaoomcmfckhcaaProg
import Derived.Test.YtcaoomcmfckhcaaMem
namespace Go.Proofs.Ytcaoomcmfckhcaa.Su
open Go.RowKit Go.MemX

end Go.Proofs.Ytcaoomcmfckhcaa.Su
