
import Derived.Test.YtheodagbkplgiaaCc
import Derived.Test.YtheodagbkplgiaaSu
namespace Go.Proofs.Ytheodagbkplgiaa
open Go.RowKit BitX

end Go.Proofs.Ytheodagbkplgiaa
