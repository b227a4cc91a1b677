
import Derived.Test.YtolceffblphpfaaProg
import Derived.Test.YtolceffblphpfaaMem
namespace Go.Proofs.Ytolceffblphpfaa.Su
open Go.RowKit Go.MemX

end Go.Proofs.Ytolceffblphpfaa.Su
