
import Derived.Test.YtngjkcdfgkkdkaaWg
namespace Go.Proofs.Ytngjkcdfgkkdkaa
open Go.RowKit BitX Go.MemX
set_option linter.unusedVariables false

def absI (x : Int) : Int := max x (-x)

end Go.Proofs.Ytngjkcdfgkkdkaa
