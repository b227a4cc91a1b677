
import Derived.Test.YtgkjncgaecfbgacCc
import Derived.Test.YtgkjncgaecfbgacSu
namespace Go.Proofs.Ytgkjncgaecfbgac
open Go.RowKit BitX

end Go.Proofs.Ytgkjncgaecfbgac
