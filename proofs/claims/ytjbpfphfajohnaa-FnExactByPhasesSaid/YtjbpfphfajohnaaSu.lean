
import Derived.Test.YtjbpfphfajohnaaProg
import Derived.Test.YtjbpfphfajohnaaMem
namespace Go.Proofs.Ytjbpfphfajohnaa.Su
open Go.RowKit Go.MemX

end Go.Proofs.Ytjbpfphfajohnaa.Su
