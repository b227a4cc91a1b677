
import Derived.Test.YtdedifgpbehpoaaCc
import Derived.Test.YtdedifgpbehpoaaSu
namespace Go.Proofs.Ytdedifgpbehpoaa
open Go.RowKit BitX

end Go.Proofs.Ytdedifgpbehpoaa
