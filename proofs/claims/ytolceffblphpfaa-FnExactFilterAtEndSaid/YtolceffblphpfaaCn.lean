
import Derived.Test.YtolceffblphpfaaCc
import Derived.Test.YtolceffblphpfaaSu
namespace Go.Proofs.Ytolceffblphpfaa
open Go.RowKit BitX

end Go.Proofs.Ytolceffblphpfaa
