
import Derived.Test.YtbhlailnefappaaCc
import Derived.Test.YtbhlailnefappaaSu
namespace Go.Proofs.Ytbhlailnefappaa
open Go.RowKit BitX

end Go.Proofs.Ytbhlailnefappaa
