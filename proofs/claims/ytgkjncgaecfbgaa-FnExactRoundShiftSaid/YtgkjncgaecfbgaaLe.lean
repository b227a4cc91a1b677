
import Derived.Test.YtgkjncgaecfbgaaCm
import Derived.OpenShut
namespace Go.Proofs.Ytgkjncgaecfbgaa
open Go.RowKit BitX

theorem in_small {b : Nat} {x : Int} (h1 : 1 ≤ b) (h2 : b ≤ 16) (hi : -(2 : Int) ^ (b - 1) ≤ x ∧ x ≤ 2 ^ (b - 1) - 1) : -32768 ≤ x ∧ x ≤ 32767 := by
  have := pow_small b h1 h2; omega
end Go.Proofs.Ytgkjncgaecfbgaa
