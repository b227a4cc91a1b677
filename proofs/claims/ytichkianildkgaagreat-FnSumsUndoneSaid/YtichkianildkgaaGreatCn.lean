
import Derived.Test.YtichkianildkgaaGreatCc
import Derived.Test.YtichkianildkgaaGreatSu
namespace Go.Proofs.YtichkianildkgaaGreat
open Go.RowKit BitX

end Go.Proofs.YtichkianildkgaaGreat
