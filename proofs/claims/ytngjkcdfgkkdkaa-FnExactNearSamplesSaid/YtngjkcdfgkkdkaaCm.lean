
import Derived.Test.YtngjkcdfgkkdkaaCn
import Derived.Test.YtngjkcdfgkkdkaaCs
namespace Go.Proofs.Ytngjkcdfgkkdkaa
open Go.RowKit BitX Go.ShX

end Go.Proofs.Ytngjkcdfgkkdkaa
