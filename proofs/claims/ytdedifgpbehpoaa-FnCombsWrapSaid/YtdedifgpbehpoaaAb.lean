
import Derived.Test.YtdedifgpbehpoaaWg
namespace Go.Proofs.Ytdedifgpbehpoaa
open Go.RowKit BitX Go.MemX
set_option linter.unusedVariables false

def absI (x : Int) : Int := max x (-x)

end Go.Proofs.Ytdedifgpbehpoaa
