
import Derived.Test.YtpikdmoghjakfaaProg
import Derived.Test.YtpikdmoghjakfaaMem
namespace Go.Proofs.Ytpikdmoghjakfaa.Su
open Go.RowKit Go.MemX

end Go.Proofs.Ytpikdmoghjakfaa.Su
