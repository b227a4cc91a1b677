
import Derived.Test.YtiibkkndjalodaaProg
import Derived.Test.YtiibkkndjalodaaMem
namespace Go.Proofs.Ytiibkkndjalodaa.Su
open Go.RowKit Go.MemX

end Go.Proofs.Ytiibkkndjalodaa.Su
