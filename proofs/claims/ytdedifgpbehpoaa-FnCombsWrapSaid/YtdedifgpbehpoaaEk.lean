
import Derived.Test.YtdedifgpbehpoaaEb
import Derived.Test.YtdedifgpbehpoaaEj
namespace Go.Proofs.Ytdedifgpbehpoaa
open Go.RowKit BitX Go.MemX Go.Ch6
set_option linter.unusedVariables false
/-- the guard, hidden -/
def caB (st r : Int) : Bool := askB st r
theorem caB_of {st r : Int} {b : Bool} (h : askB st r = b) : caB st r = b := h
theorem cbW_len {st r : Int} : (onL (caB st r) (cbW r.toNat st.toNat)).length ≤ 2000000 := onL_len fun h => by
  obtain ⟨⟨a, b⟩, ⟨c, d⟩⟩ := askB_t (show askB st r = true from h)
  have := (cbW_q (r := r.toNat) (st := st.toNat) (by omega) (by omega) (by omega)).1.2
  omega


end Go.Proofs.Ytdedifgpbehpoaa
