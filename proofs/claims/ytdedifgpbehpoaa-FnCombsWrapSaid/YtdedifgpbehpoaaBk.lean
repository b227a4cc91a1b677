
import Derived.Test.YtdedifgpbehpoaaWh
import Derived.Test.YtdedifgpbehpoaaShelf
import Derived.Laws.IdiomCopy
namespace Go.Proofs.Ytdedifgpbehpoaa
open Go.RowKit BitX Go.MemX
set_option linter.unusedVariables false


theorem tab_back (xs : List Int) : tab xs.length (fun j => at0 xs (xs.length - 1 - j)) = xs.reverse := by
  apply List.ext_getElem?
  intro i
  by_cases h : i < xs.length
  · rw [tab_get _ _ _ h, List.getElem?_reverse h]
    have h2 : xs.length - 1 - i < xs.length := by omega
    rw [List.getElem?_eq_getElem h2]; congr 1; exact at0_of (List.getElem?_eq_getElem h2)
  · rw [List.getElem?_eq_none (by rw [tab_len]; omega), List.getElem?_eq_none (by simp; omega)]


end Go.Proofs.Ytdedifgpbehpoaa
