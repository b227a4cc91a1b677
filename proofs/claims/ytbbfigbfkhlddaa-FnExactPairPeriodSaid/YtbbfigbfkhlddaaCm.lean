
import Derived.Test.YtbbfigbfkhlddaaCn
import Derived.Test.YtbbfigbfkhlddaaCs
namespace Go.Proofs.Ytbbfigbfkhlddaa
open Go.RowKit BitX Go.ShX

set_option maxHeartbeats 400000 in
theorem wdMode_yes (k mode : Int) (w : World) (a1 : 0 ≤ k) (a2 : k ≤ 20) (a3 : 0 ≤ mode) (a4 : mode ≤ 2) :
    Calls Try.prog 34 #[.int .i64 k, .int .i64 mode] w fun e w' => e = .returned (.bool true) ∧ w = w' := by
  go_enter Try.func34, Try.ntmps34
  go_wp2_with fail
  refine (l1In_yes _ _ _ _ (by omega) (by omega)).mono ?_
  rintro e w' ⟨rfl, rfl⟩
  go_wp2_with fail
  refine (l1In_yes _ _ _ _ (by omega) (by omega)).mono ?_
  rintro e w' ⟨rfl, rfl⟩
  go_wp2_with fail
  go_ret
  exact ⟨rfl, rfl⟩

set_option maxHeartbeats 400000 in
theorem wdMode_no (k mode : Int) (w : World) (h : ¬ ((0 ≤ k ∧ k ≤ 20) ∧ (0 ≤ mode ∧ mode ≤ 2))) :
    Calls Try.prog 34 #[.int .i64 k, .int .i64 mode] w fun e w' => e = .returned (.bool false) ∧ w = w' := by
  by_cases ha : 0 ≤ k ∧ k ≤ 20
  · have hb : ¬ (0 ≤ mode ∧ mode ≤ 2) := fun hb => h ⟨ha, hb⟩
    have HA := hid ha
    have HB := hid hb
    clear ha hb h
    go_enter Try.func34, Try.ntmps34
    go_wp2_with fail
    refine (l1In_yes _ _ _ _ HA.out.1 HA.out.2).mono ?_
    rintro e w' ⟨rfl, rfl⟩
    go_wp2_with fail
    refine (l1In_no _ _ _ _ HB.out).mono ?_
    rintro e w' ⟨rfl, rfl⟩
    go_wp2_with fail
    go_ret
    exact ⟨rfl, rfl⟩
  · have HA := hid ha
    clear ha h
    go_enter Try.func34, Try.ntmps34
    go_wp2_with fail
    refine (l1In_no _ _ _ _ HA.out).mono ?_
    rintro e w' ⟨rfl, rfl⟩
    go_wp2_with fail
    go_ret
    exact ⟨rfl, rfl⟩

set_option maxHeartbeats 400000 in
theorem isMode_yes (mode : Int) (w : World) (a3 : 0 ≤ mode) (a4 : mode ≤ 2) :
    Calls Try.prog 52 #[.int .i64 mode] w fun e w' => e = .returned (.bool true) ∧ w = w' := by
  have h3 : mode = 0 ∨ mode = 1 ∨ mode = 2 := by omega
  clear a3 a4
  rcases h3 with rfl | rfl | rfl
  · go_enter Try.func52, Try.ntmps52
    go_wp2
    go_ret
    exact ⟨rfl, rfl⟩
  · go_enter Try.func52, Try.ntmps52
    go_wp2
    go_ret
    exact ⟨rfl, rfl⟩
  · go_enter Try.func52, Try.ntmps52
    go_wp2
    go_ret
    exact ⟨rfl, rfl⟩

set_option maxHeartbeats 400000 in
theorem isMode_no (mode : Int) (w : World) (h : ¬ (0 ≤ mode ∧ mode ≤ 2)) :
    Calls Try.prog 52 #[.int .i64 mode] w fun e w' => e = .returned (.bool false) ∧ w = w' := by
  have e0 : (mode == 0) = false := by rw [beq_eq_false_iff_ne]; omega
  have e1 : (mode == 1) = false := by rw [beq_eq_false_iff_ne]; omega
  have e2 : (mode == 2) = false := by rw [beq_eq_false_iff_ne]; omega
  clear h
  go_enter Try.func52, Try.ntmps52
  go_wp2
  go_ret
  exact ⟨rfl, rfl⟩

end Go.Proofs.Ytbbfigbfkhlddaa
