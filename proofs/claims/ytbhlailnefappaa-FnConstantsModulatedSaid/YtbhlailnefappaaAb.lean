
import Derived.Test.YtbhlailnefappaaWg
namespace Go.Proofs.Ytbhlailnefappaa
open Go.RowKit BitX Go.MemX
set_option linter.unusedVariables false

def absI (x : Int) : Int := max x (-x)

set_option maxHeartbeats 400000 in
theorem l1Abs_any (x : Int) (w : World) (h1 : -9223372036854775807 ≤ x) (h2 : x ≤ 9223372036854775807) :
    Calls Try.prog 91 #[.int .i64 x] w fun e w' => e = .returned (.int .i64 (absI x)) ∧ w = w' := by
  by_cases h : -x < x
  · have hm : mostI x (-x) = absI x := by unfold mostI absI; rw [if_pos h]; omega
    have Hm := hid hm
    clear hm
    go_enter Try.func91, Try.ntmps91
    go_wp2_with fail
    refine (l1Most_any _ _ _).mono ?_
    rintro e w' ⟨rfl, rfl⟩
    go_wp2
    go_ret
    exact ⟨by first | rfl | exact ret_i Hm.out, rfl⟩
  · have hm : mostI x (-x) = absI x := by unfold mostI absI; rw [if_neg h]; omega
    have Hm := hid hm
    clear hm
    go_enter Try.func91, Try.ntmps91
    go_wp2_with fail
    refine (l1Most_any _ _ _).mono ?_
    rintro e w' ⟨rfl, rfl⟩
    go_wp2
    go_ret
    exact ⟨by first | rfl | exact ret_i Hm.out, rfl⟩


set_option maxHeartbeats 400000 in
theorem sizeOf_any (x : Int) (w : World) (h1 : -9223372036854775807 ≤ x) (h2 : x ≤ 9223372036854775807) :
    Calls Try.prog 52 #[.int .i64 x] w fun e w' => e = .returned (.int .i64 (absI x)) ∧ w = w' := by
  go_enter Try.func52, Try.ntmps52
  go_wp2
  all_goals go_ret
  all_goals exact ⟨ret_i (by unfold absI; omega), rfl⟩

end Go.Proofs.Ytbhlailnefappaa
