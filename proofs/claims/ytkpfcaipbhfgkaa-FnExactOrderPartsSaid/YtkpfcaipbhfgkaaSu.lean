
import Derived.Test.YtkpfcaipbhfgkaaProg
import Derived.Test.YtkpfcaipbhfgkaaMem
namespace Go.Proofs.Ytkpfcaipbhfgkaa.Su
open Go.RowKit Go.MemX

end Go.Proofs.Ytkpfcaipbhfgkaa.Su
