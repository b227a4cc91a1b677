
import Derived.Test.YtjbpfphfajohnaaWg
namespace Go.Proofs.Ytjbpfphfajohnaa
open Go.RowKit BitX Go.MemX
set_option linter.unusedVariables false

def absI (x : Int) : Int := max x (-x)

end Go.Proofs.Ytjbpfphfajohnaa
