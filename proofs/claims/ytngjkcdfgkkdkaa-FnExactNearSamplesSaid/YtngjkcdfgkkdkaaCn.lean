
import Derived.Test.YtngjkcdfgkkdkaaCc
import Derived.Test.YtngjkcdfgkkdkaaSu
namespace Go.Proofs.Ytngjkcdfgkkdkaa
open Go.RowKit BitX

end Go.Proofs.Ytngjkcdfgkkdkaa
