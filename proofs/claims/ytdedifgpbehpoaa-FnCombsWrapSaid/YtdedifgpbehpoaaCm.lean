
import Derived.Test.YtdedifgpbehpoaaCn
import Derived.Test.YtdedifgpbehpoaaCs
namespace Go.Proofs.Ytdedifgpbehpoaa
open Go.RowKit BitX Go.ShX

end Go.Proofs.Ytdedifgpbehpoaa
