
import Derived.Test.YthgdpmhpieakhaaCc
import Derived.Test.YthgdpmhpieakhaaSu
namespace Go.Proofs.Ythgdpmhpieakhaa
open Go.RowKit BitX

end Go.Proofs.Ythgdpmhpieakhaa
