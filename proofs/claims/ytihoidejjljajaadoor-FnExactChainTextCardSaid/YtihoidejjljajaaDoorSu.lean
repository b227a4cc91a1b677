
import Derived.Test.YtihoidejjljajaaDoorProg
import Derived.Test.YtihoidejjljajaaDoorMem
namespace Go.Proofs.YtihoidejjljajaaDoor.Su
open Go.RowKit Go.MemX

end Go.Proofs.YtihoidejjljajaaDoor.Su
