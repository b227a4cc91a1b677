
import Derived.Test.YtogffkgihjdbkaaProg
import Derived.Test.YtogffkgihjdbkaaMem
namespace Go.Proofs.Ytogffkgihjdbkaa.Su
open Go.RowKit Go.MemX

end Go.Proofs.Ytogffkgihjdbkaa.Su
