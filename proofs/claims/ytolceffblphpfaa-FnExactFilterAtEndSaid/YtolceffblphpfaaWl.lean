
import Derived.Test.YtolceffblphpfaaWg
namespace Go.Proofs.Ytolceffblphpfaa
open Go.RowKit BitX Go.MemX
set_option linter.unusedVariables false


end Go.Proofs.Ytolceffblphpfaa
