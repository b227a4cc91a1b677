
import Derived.Test.YtedhclicjkjlfaaWg
namespace Go.Proofs.Ytedhclicjkjlfaa
open Go.RowKit BitX Go.MemX
set_option linter.unusedVariables false

def absI (x : Int) : Int := max x (-x)

end Go.Proofs.Ytedhclicjkjlfaa
