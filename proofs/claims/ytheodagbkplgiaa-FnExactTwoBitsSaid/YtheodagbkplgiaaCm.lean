
import Derived.Test.YtheodagbkplgiaaCn
import Derived.Test.YtheodagbkplgiaaCs
namespace Go.Proofs.Ytheodagbkplgiaa
open Go.RowKit BitX Go.ShX

end Go.Proofs.Ytheodagbkplgiaa
