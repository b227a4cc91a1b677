
import Derived.Test.YtiibkkndjalodaaOa
import Derived.Test.YtiibkkndjalodaaAb
import Derived.Deep.QuietTactic
import Derived.BigQuiet
namespace Go.Proofs.Ytiibkkndjalodaa
open Go.RowKit BitX Go.MemX Go.ShX
set_option linter.unusedVariables false

theorem pow10 (k : Nat) (h : k ≤ 10) : (1 : Int) ≤ 2 ^ k ∧ (2 : Int) ^ k ≤ 1024 := by
  have h1 : (2 : Nat) ^ k ≤ 2 ^ 10 := Nat.pow_le_pow_right (by decide) h
  have h2 : (2 : Int) ^ k ≤ 2 ^ 10 := by exact_mod_cast h1
  have h3 : (0 : Int) < 2 ^ k := Int.pow_pos (by decide)
  omega

theorem ret_ii {i j k l : Int} (h1 : i = j) (h2 : k = l) : Ending.returned (.tuple #[.int .i64 i, .int .i64 k]) = .returned (.tuple #[.int .i64 j, .int .i64 l]) := by rw [h1, h2]

theorem i64_nat (q : Nat) (h : q ≤ 5000) : IntKind.i64.wrap (q : Int) = (q : Int) := IntWalk.i64_in _ (by omega)
theorem i64_neg (q : Nat) (h : q ≤ 5000) : IntKind.i64.wrap (-(q : Int)) = -(q : Int) := IntWalk.i64_in _ (by omega)
theorem w64_nat (q : Nat) (h : q ≤ 5000) : wrap64 (q : Int) = (q : Int) := IntWalk.wrap64_in _ (by omega)
theorem w64_neg (q : Nat) (h : q ≤ 5000) : wrap64 (-(q : Int)) = -(q : Int) := IntWalk.wrap64_in _ (by omega)


theorem tmod_nat (x y : Nat) : (x : Int).tmod (y : Int) = ((x % y : Nat) : Int) := by
  rw [Int.tmod_eq_emod_of_nonneg (by omega)]; rfl
theorem gcd_step (x y : Nat) : Nat.gcd y (x % y) = Nat.gcd x y := by
  rw [Nat.gcd_comm y, ← Nat.gcd_rec, Nat.gcd_comm]
end Go.Proofs.Ytiibkkndjalodaa
