
import Derived.Test.YtpikdmoghjakfaaCc
import Derived.Test.YtpikdmoghjakfaaSu
namespace Go.Proofs.Ytpikdmoghjakfaa
open Go.RowKit BitX

end Go.Proofs.Ytpikdmoghjakfaa
