
import Derived.Test.YtbbfigbfkhlddaaCc
import Derived.Test.YtbbfigbfkhlddaaSu
namespace Go.Proofs.Ytbbfigbfkhlddaa
open Go.RowKit BitX

end Go.Proofs.Ytbbfigbfkhlddaa
