
import Derived.Test.YtbhlailnefappaaMs
import Derived.Test.YtbhlailnefappaaCn
import Derived.Deep.QuietTactic
import Derived.BigQuiet
namespace Go.Proofs.Ytbhlailnefappaa
open Go.RowKit BitX Go.MemX

theorem uslice : Try.prog.underlying 24 = some (.slice 3) := by kernel_rfl
theorem iint : (Try.prog.info? 3).map (fun i => (i.zero, i.size, i.bytes)) = some (some (.int .i64 0), 1, 8) := by kernel_rfl

/-- what a call leaves that hands back a new list of just these numbers -/
def Fresh (w : World) (xs : List Int) (e : Ending) (w' : World) : Prop :=
  ∃ g, w.heap.size ≤ g ∧ e = .returned (.slice (some ⟨g, 0, none⟩) xs.length xs.length) ∧ Blk 3 w' g xs ∧ Below w.heap.size w w'

/-- two lists that read alike -/
theorem get_eq_of (xs ys : List Int) (n : Nat) (hx : n = xs.length) (hy : n = ys.length) (h : ∀ i, i < n → xs[i]? = ys[i]?) : xs = ys := by
  apply List.ext_getElem?
  intro i
  by_cases hi : i < n
  · exact h i hi
  · rw [List.getElem?_eq_none (by omega), List.getElem?_eq_none (by omega)]

end Go.Proofs.Ytbhlailnefappaa
