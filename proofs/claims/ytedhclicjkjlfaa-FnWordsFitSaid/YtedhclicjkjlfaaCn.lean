
import Derived.Test.YtedhclicjkjlfaaCc
import Derived.Test.YtedhclicjkjlfaaSu
namespace Go.Proofs.Ytedhclicjkjlfaa
open Go.RowKit BitX

set_option maxHeartbeats 400000 in
theorem spec_num_yes (x : Int) (w : World) (h3 : -1000000000000 ≤ x) (h4 : x ≤ 1000000000000) :
    Calls Try.prog 32 #[.int .i64 x] w fun e w' => e = .returned (.bool true) ∧ w = w' := by
  go_enter Try.func32, Try.ntmps32
  go_wp2_with fail
  refine (l1In_yes _ _ _ _ (by omega) (by omega)).mono ?_
  rintro e w' ⟨rfl, rfl⟩
  go_wp2_with fail
  go_ret
  exact ⟨rfl, rfl⟩

set_option maxHeartbeats 400000 in
theorem spec_num_no (x : Int) (w : World) (h : ¬ (-1000000000000 ≤ x ∧ x ≤ 1000000000000)) :
    Calls Try.prog 32 #[.int .i64 x] w fun e w' => e = .returned (.bool false) ∧ w = w' := by
  have H := hid h
  clear h
  go_enter Try.func32, Try.ntmps32
  go_wp2_with fail
  refine (l1In_no _ _ _ _ H.out).mono ?_
  rintro e w' ⟨rfl, rfl⟩
  go_wp2_with fail
  go_ret
  exact ⟨rfl, rfl⟩

set_option maxHeartbeats 400000 in
theorem impl_num_yes (x : Int) (w : World) (h3 : -1000000000000 ≤ x) (h4 : x ≤ 1000000000000) :
    Calls Try.prog 29 #[.int .i64 x] w fun e w' => e = .returned (.bool true) ∧ w = w' := by
  go_enter Try.func29, Try.ntmps29
  go_wp2
  go_ret
  exact ⟨rfl, rfl⟩

set_option maxHeartbeats 400000 in
theorem impl_num_no (x : Int) (w : World) (h : ¬ (-1000000000000 ≤ x ∧ x ≤ 1000000000000)) :
    Calls Try.prog 29 #[.int .i64 x] w fun e w' => e = .returned (.bool false) ∧ w = w' := by
  by_cases h1 : x < -1000000000000
  · clear h
    go_enter Try.func29, Try.ntmps29
    go_wp2
    go_ret
    exact ⟨rfl, rfl⟩
  · have h2 : -1000000000000 ≤ x := by omega
    have h3 : 1000000000000 < x := by omega
    clear h h1
    go_enter Try.func29, Try.ntmps29
    go_wp2
    go_ret
    exact ⟨ret_b (decide_eq_false (by omega)), rfl⟩

end Go.Proofs.Ytedhclicjkjlfaa
