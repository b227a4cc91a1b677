
import Derived.Test.YtkpfcaipbhfgkaaOa
namespace Go.Proofs.Ytkpfcaipbhfgkaa
open Go.RowKit BitX Go.MemX
set_option linter.unusedVariables false


end Go.Proofs.Ytkpfcaipbhfgkaa
