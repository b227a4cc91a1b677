
import Derived.Test.YtjbpfphfajohnaaRm
namespace Go.Proofs.Ytjbpfphfajohnaa
open Go.RowKit BitX Go.MemX
theorem markIntS_plus (v : Value) (xs : List Int) (j B : Nat) (w : World) (hv : Res 3 B w v xs) (hl : xs.length ≤ 2000000) (hj : j ≤ 4000000) :
    Calls Try.prog 11 #[v, .int .i64 (1 + (j : Int))] w fun e w' => e = .returned (.int .i64 ((1 + j + xs.length : Nat) : Int)) ∧ OnlyV v w w' ∧ Res 3 B w' v (marks (1 + j) xs.length) := by
  have := markIntS_res v xs (1 + j) B w hv hl (by omega)
  rw [Int.natCast_add] at this
  exact this
end Go.Proofs.Ytjbpfphfajohnaa
