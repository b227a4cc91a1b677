
import Derived.Test.YtichkianildkgaaGreatWg
namespace Go.Proofs.YtichkianildkgaaGreat
open Go.RowKit BitX Go.MemX
set_option linter.unusedVariables false


end Go.Proofs.YtichkianildkgaaGreat
