
import Derived.Test.YtkpfcaipbhfgkaaWh
import Derived.Test.YtkpfcaipbhfgkaaSc
import Derived.Laws.AppendOwnNone
namespace Go.Proofs.Ytkpfcaipbhfgkaa
open Go.RowKit BitX Go.MemX
set_option linter.unusedVariables false


def onB {α : Type} (b : Bool) (x y : α) : α := match b with | true => x | false => y
theorem res_onB {E : TypeId} {B : Nat} {w : World} {v : Value} {ys : List Int} (b : Bool) (h : Res E B w v ys) : Res E B w (onB b v (.slice none 0 0)) (onB b ys []) := by
  cases b
  · exact .inl ⟨rfl, rfl⟩
  · exact h
theorem onB_len {b : Bool} {ys : List Int} {n : Nat} (h : b = true → ys.length ≤ n) : (onB b ys []).length ≤ n := by
  cases b
  · simp [onB]
  · exact h rfl


end Go.Proofs.Ytkpfcaipbhfgkaa
