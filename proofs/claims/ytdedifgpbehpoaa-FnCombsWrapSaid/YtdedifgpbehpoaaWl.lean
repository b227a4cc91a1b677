
import Derived.Test.YtdedifgpbehpoaaWg
namespace Go.Proofs.Ytdedifgpbehpoaa
open Go.RowKit BitX Go.MemX
set_option linter.unusedVariables false


end Go.Proofs.Ytdedifgpbehpoaa
