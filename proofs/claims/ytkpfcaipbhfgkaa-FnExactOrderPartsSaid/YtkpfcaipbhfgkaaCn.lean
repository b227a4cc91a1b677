
import Derived.Test.YtkpfcaipbhfgkaaCc
import Derived.Test.YtkpfcaipbhfgkaaSu
namespace Go.Proofs.Ytkpfcaipbhfgkaa
open Go.RowKit BitX

end Go.Proofs.Ytkpfcaipbhfgkaa
