
import Derived.Test.YtihoidejjljajaaDoorOa
namespace Go.Proofs.YtihoidejjljajaaDoor
open Go.RowKit BitX Go.MemX
set_option linter.unusedVariables false


end Go.Proofs.YtihoidejjljajaaDoor
