
import Derived.Test.YthbbceaaphfhnaaCc
import Derived.Test.YthbbceaaphfhnaaSu
namespace Go.Proofs.Ythbbceaaphfhnaa
open Go.RowKit BitX

end Go.Proofs.Ythbbceaaphfhnaa
