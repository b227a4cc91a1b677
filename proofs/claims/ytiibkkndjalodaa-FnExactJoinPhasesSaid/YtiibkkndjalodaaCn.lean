
import Derived.Test.YtiibkkndjalodaaCc
import Derived.Test.YtiibkkndjalodaaSu
namespace Go.Proofs.Ytiibkkndjalodaa
open Go.RowKit BitX

end Go.Proofs.Ytiibkkndjalodaa
