
import Derived.Test.YtiibkkndjalodaaCn
import Derived.Test.YtiibkkndjalodaaCs
namespace Go.Proofs.Ytiibkkndjalodaa
open Go.RowKit BitX Go.ShX

end Go.Proofs.Ytiibkkndjalodaa
