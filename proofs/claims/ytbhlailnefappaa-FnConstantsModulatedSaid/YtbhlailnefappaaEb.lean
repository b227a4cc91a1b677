
import Derived.Test.YtbhlailnefappaaEa
namespace Go.Proofs.Ytbhlailnefappaa
open Go.RowKit BitX Go.MemX Go.Ch6
set_option linter.unusedVariables false


theorem gives_no {w w' : World} {ys : List Int} {b : Bool} (h : b = false) (hb : Below w.heap.size w w') : Gives w (onL b ys) b (.returned (.tuple #[.slice none 0 0, .bool false])) w' := by subst h; exact ⟨_, rfl, .inl ⟨rfl, rfl⟩, hb⟩
theorem gives_yes {w w' : World} {v : Value} {ys : List Int} {b : Bool} (h : b = true) (hv : Res 3 w.heap.size w' v ys) (hb : Below w.heap.size w w') : Gives w (onL b ys) b (.returned (.tuple #[v, .bool true])) w' := by subst h; exact ⟨_, rfl, hv, hb⟩
theorem onI_no {x : Int} {b : Bool} (h : b = false) : Ending.returned (.tuple #[.int .i64 0, .bool false]) = .returned (.tuple #[.int .i64 (onI b x), .bool b]) := by subst h; rfl
theorem onI_yes {x y : Int} {b : Bool} (h : b = true) (e : y = x) : Ending.returned (.tuple #[.int .i64 y, .bool true]) = .returned (.tuple #[.int .i64 (onI b x), .bool b]) := by subst h e; rfl


end Go.Proofs.Ytbhlailnefappaa
