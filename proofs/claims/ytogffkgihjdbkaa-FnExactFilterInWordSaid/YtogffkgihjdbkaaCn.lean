
import Derived.Test.YtogffkgihjdbkaaCc
import Derived.Test.YtogffkgihjdbkaaSu
namespace Go.Proofs.Ytogffkgihjdbkaa
open Go.RowKit BitX

end Go.Proofs.Ytogffkgihjdbkaa
