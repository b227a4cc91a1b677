
import Derived.Test.YtmbaemdbbajliaaProg
import Derived.Test.YtmbaemdbbajliaaMem
namespace Go.Proofs.Ytmbaemdbbajliaa.Su
open Go.RowKit Go.MemX

end Go.Proofs.Ytmbaemdbbajliaa.Su
