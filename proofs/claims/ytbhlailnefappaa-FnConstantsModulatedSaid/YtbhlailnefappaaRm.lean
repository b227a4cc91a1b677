
import Derived.Test.YtbhlailnefappaaRe
import Derived.Test.YtbhlailnefappaaSi
namespace Go.Proofs.Ytbhlailnefappaa
open Go.RowKit BitX Go.MemX

/-- what a call leaves that hands back a new list and a bool -/
def Gives (w : World) (xs : List Int) (ok : Bool) (e : Ending) (w' : World) : Prop :=
  ∃ v, e = .returned (.tuple #[v, .bool ok]) ∧ Res 3 w.heap.size w' v xs ∧ Below w.heap.size w w'
/-- what a call leaves that hands back a new list alone -/
def GivesL (w : World) (xs : List Int) (e : Ending) (w' : World) : Prop :=
  ∃ v, e = .returned v ∧ Res 3 w.heap.size w' v xs ∧ Below w.heap.size w w'

end Go.Proofs.Ytbhlailnefappaa
