
import Derived.Test.YtgpnedchlkigeaaCc
import Derived.Test.YtgpnedchlkigeaaSu
namespace Go.Proofs.Ytgpnedchlkigeaa
open Go.RowKit BitX

end Go.Proofs.Ytgpnedchlkigeaa
