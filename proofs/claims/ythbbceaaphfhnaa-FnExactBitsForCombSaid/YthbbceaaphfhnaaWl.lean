
import Derived.Test.YthbbceaaphfhnaaWg
namespace Go.Proofs.Ythbbceaaphfhnaa
open Go.RowKit BitX Go.MemX
set_option linter.unusedVariables false


end Go.Proofs.Ythbbceaaphfhnaa
