
import Derived.Test.YtnagpfkchkdiiaaCn
import Derived.Test.YtnagpfkchkdiiaaCs
namespace Go.Proofs.Ytnagpfkchkdiiaa
open Go.RowKit BitX Go.ShX

end Go.Proofs.Ytnagpfkchkdiiaa
