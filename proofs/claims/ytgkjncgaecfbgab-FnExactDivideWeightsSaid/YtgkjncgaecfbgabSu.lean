
import Derived.Test.YtgkjncgaecfbgabProg
import Derived.Test.YtgkjncgaecfbgabMem
namespace Go.Proofs.Ytgkjncgaecfbgab.Su
open Go.RowKit Go.MemX

end Go.Proofs.Ytgkjncgaecfbgab.Su
