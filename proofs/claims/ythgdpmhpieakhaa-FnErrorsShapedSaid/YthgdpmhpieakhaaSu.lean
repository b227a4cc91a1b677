
import Derived.Test.YthgdpmhpieakhaaProg
import Derived.Test.YthgdpmhpieakhaaMem
namespace Go.Proofs.Ythgdpmhpieakhaa.Su
open Go.RowKit Go.MemX

end Go.Proofs.Ythgdpmhpieakhaa.Su
