
import Derived.Test.YtihoidejjljajaaDoorCc
import Derived.Test.YtihoidejjljajaaDoorSu
namespace Go.Proofs.YtihoidejjljajaaDoor
open Go.RowKit BitX

end Go.Proofs.YtihoidejjljajaaDoor
