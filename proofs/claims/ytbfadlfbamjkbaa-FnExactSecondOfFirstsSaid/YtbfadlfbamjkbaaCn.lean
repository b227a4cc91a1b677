
import Derived.Test.YtbfadlfbamjkbaaCc
import Derived.Test.YtbfadlfbamjkbaaSu
namespace Go.Proofs.Ytbfadlfbamjkbaa
open Go.RowKit BitX

end Go.Proofs.Ytbfadlfbamjkbaa
