
import Derived.Test.YtdedifgpbehpoaaProg
import Derived.Test.YtdedifgpbehpoaaMem
namespace Go.Proofs.Ytdedifgpbehpoaa.Su
open Go.RowKit Go.MemX

end Go.Proofs.Ytdedifgpbehpoaa.Su
