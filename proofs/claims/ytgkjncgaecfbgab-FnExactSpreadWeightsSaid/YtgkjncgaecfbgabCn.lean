
import Derived.Test.YtgkjncgaecfbgabCc
import Derived.Test.YtgkjncgaecfbgabSu
namespace Go.Proofs.Ytgkjncgaecfbgab
open Go.RowKit BitX

end Go.Proofs.Ytgkjncgaecfbgab
