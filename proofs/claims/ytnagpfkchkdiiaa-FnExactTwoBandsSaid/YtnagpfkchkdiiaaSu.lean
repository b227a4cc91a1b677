
import Derived.Test.YtnagpfkchkdiiaaProg
import Derived.Test.YtnagpfkchkdiiaaMem
namespace Go.Proofs.Ytnagpfkchkdiiaa.Su
open Go.RowKit Go.MemX

end Go.Proofs.Ytnagpfkchkdiiaa.Su
