
import Derived.Test.YtnagpfkchkdiiaaCc
import Derived.Test.YtnagpfkchkdiiaaSu
namespace Go.Proofs.Ytnagpfkchkdiiaa
open Go.RowKit BitX

end Go.Proofs.Ytnagpfkchkdiiaa
