
import Derived.Test.YtoiojbbadmkbjaaCc
import Derived.Test.YtoiojbbadmkbjaaSu
namespace Go.Proofs.Ytoiojbbadmkbjaa
open Go.RowKit BitX

end Go.Proofs.Ytoiojbbadmkbjaa
