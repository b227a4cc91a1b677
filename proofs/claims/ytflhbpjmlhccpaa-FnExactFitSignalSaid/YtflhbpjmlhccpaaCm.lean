
import Derived.Test.YtflhbpjmlhccpaaCn
import Derived.Test.YtflhbpjmlhccpaaCs
namespace Go.Proofs.Ytflhbpjmlhccpaa
open Go.RowKit BitX Go.ShX

end Go.Proofs.Ytflhbpjmlhccpaa
