
import Derived.Test.YtjbpfphfajohnaaCc
import Derived.Test.YtjbpfphfajohnaaSu
namespace Go.Proofs.Ytjbpfphfajohnaa
open Go.RowKit BitX

end Go.Proofs.Ytjbpfphfajohnaa
