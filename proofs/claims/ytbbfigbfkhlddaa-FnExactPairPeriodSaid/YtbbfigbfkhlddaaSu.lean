
import Derived.Test.YtbbfigbfkhlddaaProg
import Derived.Test.YtbbfigbfkhlddaaMem
namespace Go.Proofs.Ytbbfigbfkhlddaa.Su
open Go.RowKit Go.MemX

end Go.Proofs.Ytbbfigbfkhlddaa.Su
