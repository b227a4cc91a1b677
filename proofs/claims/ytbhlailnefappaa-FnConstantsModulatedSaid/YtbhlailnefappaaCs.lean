
import Derived.Test.YtbhlailnefappaaCn
import Derived.Test.YtbhlailnefappaaSh
namespace Go.Proofs.Ytbhlailnefappaa
open Go.RowKit BitX Go.ShX

theorem pow20 (k : Nat) (h : k ≤ 20) : (1 : Int) ≤ 2 ^ k ∧ (2 : Int) ^ k ≤ 1048576 := by
  have hp : (0 : Int) < 2 ^ k := Int.pow_pos (by decide)
  have : (2 : Nat) ^ k ≤ 2 ^ 20 := Nat.pow_le_pow_right (by decide) h
  have h3 : (2 : Int) ^ k ≤ 2 ^ 20 := by exact_mod_cast this
  omega

end Go.Proofs.Ytbhlailnefappaa
