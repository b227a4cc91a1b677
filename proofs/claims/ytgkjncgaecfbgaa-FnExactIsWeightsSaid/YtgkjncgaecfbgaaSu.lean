
import Derived.Test.YtgkjncgaecfbgaaProg
import Derived.Test.YtgkjncgaecfbgaaMem
namespace Go.Proofs.Ytgkjncgaecfbgaa.Su
open Go.RowKit Go.MemX

end Go.Proofs.Ytgkjncgaecfbgaa.Su
