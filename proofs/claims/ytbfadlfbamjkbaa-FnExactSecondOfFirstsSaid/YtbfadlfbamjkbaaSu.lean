
import Derived.Test.YtbfadlfbamjkbaaProg
import Derived.Test.YtbfadlfbamjkbaaMem
namespace Go.Proofs.Ytbfadlfbamjkbaa.Su
open Go.RowKit Go.MemX

end Go.Proofs.Ytbfadlfbamjkbaa.Su
