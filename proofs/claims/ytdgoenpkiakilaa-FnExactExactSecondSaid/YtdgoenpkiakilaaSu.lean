
import Derived.Test.YtdgoenpkiakilaaProg
import Derived.Test.YtdgoenpkiakilaaMem
namespace Go.Proofs.Ytdgoenpkiakilaa.Su
open Go.RowKit Go.MemX

end Go.Proofs.Ytdgoenpkiakilaa.Su
