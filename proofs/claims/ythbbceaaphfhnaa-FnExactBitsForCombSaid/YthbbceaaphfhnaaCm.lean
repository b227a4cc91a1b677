
import Derived.Test.YthbbceaaphfhnaaCn
import Derived.Test.YthbbceaaphfhnaaCs
namespace Go.Proofs.Ythbbceaaphfhnaa
open Go.RowKit BitX Go.ShX

end Go.Proofs.Ythbbceaaphfhnaa
