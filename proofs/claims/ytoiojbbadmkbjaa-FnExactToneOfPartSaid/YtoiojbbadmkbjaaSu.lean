
import Derived.Test.YtoiojbbadmkbjaaProg
import Derived.Test.YtoiojbbadmkbjaaMem
namespace Go.Proofs.Ytoiojbbadmkbjaa.Su
open Go.RowKit Go.MemX

end Go.Proofs.Ytoiojbbadmkbjaa.Su
