
import Derived.Test.YtmbaemdbbajliaaCc
import Derived.Test.YtmbaemdbbajliaaSu
namespace Go.Proofs.Ytmbaemdbbajliaa
open Go.RowKit BitX

end Go.Proofs.Ytmbaemdbbajliaa
