
import Derived.Test.YtbhlailnefappaaCn
import Derived.Test.YtbhlailnefappaaCs
namespace Go.Proofs.Ytbhlailnefappaa
open Go.RowKit BitX Go.ShX

end Go.Proofs.Ytbhlailnefappaa
