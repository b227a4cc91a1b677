
import Derived.Test.YtngjkcdfgkkdkaaProg
import Derived.Test.YtngjkcdfgkkdkaaMem
namespace Go.Proofs.Ytngjkcdfgkkdkaa.Su
open Go.RowKit Go.MemX

end Go.Proofs.Ytngjkcdfgkkdkaa.Su
