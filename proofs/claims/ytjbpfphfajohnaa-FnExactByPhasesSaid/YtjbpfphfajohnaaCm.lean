
import Derived.Test.YtjbpfphfajohnaaCn
import Derived.Test.YtjbpfphfajohnaaCs
namespace Go.Proofs.Ytjbpfphfajohnaa
open Go.RowKit BitX Go.ShX

end Go.Proofs.Ytjbpfphfajohnaa
