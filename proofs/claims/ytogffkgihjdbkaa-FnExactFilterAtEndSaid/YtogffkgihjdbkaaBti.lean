
import Derived.Test.YtogffkgihjdbkaaBs
namespace Go.Proofs.Ytogffkgihjdbkaa
open Go.RowKit BitX Go.MemX
set_option linter.unusedVariables false


end Go.Proofs.Ytogffkgihjdbkaa
