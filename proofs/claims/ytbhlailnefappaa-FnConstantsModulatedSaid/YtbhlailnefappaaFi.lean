
import Derived.Test.YtbhlailnefappaaBo
namespace Go.Proofs.Ytbhlailnefappaa
open Go.RowKit BitX

theorem pow_small (b : Nat) (h1 : 1 ≤ b) (h2 : b ≤ 16) : (1 : Int) ≤ 2 ^ (b - 1) ∧ (2 : Int) ^ (b - 1) ≤ 32768 := by
  have hp : (0 : Int) < 2 ^ (b - 1) := Int.pow_pos (by decide)
  have : (2 : Nat) ^ (b - 1) ≤ 2 ^ 15 := Nat.pow_le_pow_right (by decide) (by omega)
  have h3 : (2 : Int) ^ (b - 1) ≤ 2 ^ 15 := by exact_mod_cast this
  omega
theorem ret_i {a b : Int} (h : a = b) : Ending.returned (.int .i64 a) = .returned (.int .i64 b) := by rw [h]

/-- a number fitted to a word -/
def fitI (b : Nat) (wr : Bool) (x : Int) : Int :=
  if wr then x.bmod (2 ^ b) else if x < -(2 : Int) ^ (b - 1) then -(2 : Int) ^ (b - 1) else if 2 ^ (b - 1) - 1 < x then 2 ^ (b - 1) - 1 else x

end Go.Proofs.Ytbhlailnefappaa
