
import Derived.Test.YtfeihplfcbjigaaWg
namespace Go.Proofs.Ytfeihplfcbjigaa
open Go.RowKit BitX Go.MemX
set_option linter.unusedVariables false

def absI (x : Int) : Int := max x (-x)

set_option maxHeartbeats 400000 in
theorem sizeOf_any (x : Int) (w : World) (h1 : -9223372036854775807 ≤ x) (h2 : x ≤ 9223372036854775807) :
    Calls Try.prog 45 #[.int .i64 x] w fun e w' => e = .returned (.int .i64 (absI x)) ∧ w = w' := by
  go_enter Try.func45, Try.ntmps45
  go_wp2
  all_goals go_ret
  all_goals exact ⟨ret_i (by unfold absI; omega), rfl⟩

end Go.Proofs.Ytfeihplfcbjigaa
