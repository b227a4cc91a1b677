
import Derived.Test.YtfbgmbbckiefoaaCc
import Derived.Test.YtfbgmbbckiefoaaSu
namespace Go.Proofs.Ytfbgmbbckiefoaa
open Go.RowKit BitX

end Go.Proofs.Ytfbgmbbckiefoaa
