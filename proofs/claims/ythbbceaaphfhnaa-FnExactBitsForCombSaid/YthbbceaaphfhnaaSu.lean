
import Derived.Test.YthbbceaaphfhnaaProg
import Derived.Test.YthbbceaaphfhnaaMem
namespace Go.Proofs.Ythbbceaaphfhnaa.Su
open Go.RowKit Go.MemX

end Go.Proofs.Ythbbceaaphfhnaa.Su
