
import Derived.Test.YtflhbpjmlhccpaaCc
import Derived.Test.YtflhbpjmlhccpaaSu
namespace Go.Proofs.Ytflhbpjmlhccpaa
open Go.RowKit BitX

end Go.Proofs.Ytflhbpjmlhccpaa
