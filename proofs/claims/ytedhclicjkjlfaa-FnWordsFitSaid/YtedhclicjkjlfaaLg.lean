
import Derived.Test.YtedhclicjkjlfaaLe
import Derived.Test.YtedhclicjkjlfaaLe
namespace Go.Proofs.Ytedhclicjkjlfaa
open Go.RowKit BitX Go.ShX

set_option maxHeartbeats 400000 in
theorem spec_RoundShift_yes (x : Int) (k : Nat) (mode : Int) (w : World) (h3 : -1000000000000 ≤ x) (h4 : x ≤ 1000000000000) (hk : k ≤ 20) (a3 : 0 ≤ mode) (a4 : mode ≤ 2) :
    Calls Try.prog 23 #[.int .i64 x, .int .i64 (k : Int), .int .i64 mode] w fun e w' => e = .returned (.tuple #[.int .i64 (shiftI x k mode), .bool true]) ∧ w = w' := by
  have hmode : mode = 0 ∨ mode = 1 ∨ mode = 2 := by omega
  have HM := hid hmode
  clear hmode
  go_enter Try.func23, Try.ntmps23
  go_wp2_with fail
  refine (spec_num_yes x _ h3 h4).mono ?_
  rintro e w' ⟨rfl, rfl⟩
  go_wp2_with fail
  refine (wdMode_yes _ _ _ (by omega) (by omega) a3 a4).mono ?_
  rintro e w' ⟨rfl, rfl⟩
  go_wp2_with fail
  refine (wdShift_any x k mode _ hk h3 h4 HM.out).mono ?_
  rintro e w' ⟨rfl, rfl⟩
  go_wp2_with fail
  go_ret2
  exact ⟨rfl, rfl⟩

set_option maxHeartbeats 400000 in
theorem spec_RoundShift_no1 (x k mode : Int) (w : World) (hx : ¬ (-1000000000000 ≤ x ∧ x ≤ 1000000000000)) :
    Calls Try.prog 23 #[.int .i64 x, .int .i64 k, .int .i64 mode] w fun e w' => e = .returned (.tuple #[.int .i64 0, .bool false]) ∧ w = w' := by
  have HX := hid hx
  clear hx
  go_enter Try.func23, Try.ntmps23
  go_wp2_with fail
  refine (spec_num_no x _ HX.out).mono ?_
  rintro e w' ⟨rfl, rfl⟩
  go_wp2_with fail
  go_ret2
  exact ⟨rfl, rfl⟩

set_option maxHeartbeats 400000 in
theorem spec_RoundShift_no2 (x k mode : Int) (w : World) (h3 : -1000000000000 ≤ x) (h4 : x ≤ 1000000000000) (h : ¬ ((0 ≤ k ∧ k ≤ 20) ∧ (0 ≤ mode ∧ mode ≤ 2))) :
    Calls Try.prog 23 #[.int .i64 x, .int .i64 k, .int .i64 mode] w fun e w' => e = .returned (.tuple #[.int .i64 0, .bool false]) ∧ w = w' := by
  have H := hid h
  clear h
  go_enter Try.func23, Try.ntmps23
  go_wp2_with fail
  refine (spec_num_yes x _ h3 h4).mono ?_
  rintro e w' ⟨rfl, rfl⟩
  go_wp2_with fail
  refine (wdMode_no _ _ _ H.out).mono ?_
  rintro e w' ⟨rfl, rfl⟩
  go_wp2_with fail
  go_ret2
  exact ⟨rfl, rfl⟩

set_option maxHeartbeats 400000 in
theorem impl_RoundShift_yes (x : Int) (k : Nat) (mode : Int) (w : World) (h3 : -1000000000000 ≤ x) (h4 : x ≤ 1000000000000) (hk : k ≤ 20) (a3 : 0 ≤ mode) (a4 : mode ≤ 2) :
    Calls Try.prog 21 #[.int .i64 x, .int .i64 (k : Int), .int .i64 mode] w fun e w' => e = .returned (.tuple #[.int .i64 (shiftI x k mode), .bool true]) ∧ w = w' := by
  have hmode : mode = 0 ∨ mode = 1 ∨ mode = 2 := by omega
  have HM := hid hmode
  clear hmode
  go_enter Try.func21, Try.ntmps21
  go_wp2_with fail
  refine (impl_num_yes x _ h3 h4).mono ?_
  rintro e w' ⟨rfl, rfl⟩
  go_wp2_with fail
  refine (isShift_yes _ _ (by omega) (by omega)).mono ?_
  rintro e w' ⟨rfl, rfl⟩
  go_wp2_with fail
  refine (isMode_yes _ _ a3 a4).mono ?_
  rintro e w' ⟨rfl, rfl⟩
  go_wp2_with fail
  refine (shifted_any x k mode _ hk h3 h4 HM.out).mono ?_
  rintro e w' ⟨rfl, rfl⟩
  go_wp2_with fail
  go_ret2
  exact ⟨rfl, rfl⟩

set_option maxHeartbeats 400000 in
theorem impl_RoundShift_no1 (x k mode : Int) (w : World) (hx : ¬ (-1000000000000 ≤ x ∧ x ≤ 1000000000000)) :
    Calls Try.prog 21 #[.int .i64 x, .int .i64 k, .int .i64 mode] w fun e w' => e = .returned (.tuple #[.int .i64 0, .bool false]) ∧ w = w' := by
  have HX := hid hx
  clear hx
  go_enter Try.func21, Try.ntmps21
  go_wp2_with fail
  refine (impl_num_no x _ HX.out).mono ?_
  rintro e w' ⟨rfl, rfl⟩
  go_wp2_with fail
  go_ret2
  exact ⟨rfl, rfl⟩

set_option maxHeartbeats 400000 in
theorem impl_RoundShift_no2 (x k mode : Int) (w : World) (h3 : -1000000000000 ≤ x) (h4 : x ≤ 1000000000000) (h : ¬ ((0 ≤ k ∧ k ≤ 20) ∧ (0 ≤ mode ∧ mode ≤ 2))) :
    Calls Try.prog 21 #[.int .i64 x, .int .i64 k, .int .i64 mode] w fun e w' => e = .returned (.tuple #[.int .i64 0, .bool false]) ∧ w = w' := by
  by_cases ha : 0 ≤ k ∧ k ≤ 20
  · have hb : ¬ (0 ≤ mode ∧ mode ≤ 2) := fun hb => h ⟨ha, hb⟩
    have HA := hid ha
    have HB := hid hb
    clear ha hb h
    go_enter Try.func21, Try.ntmps21
    go_wp2_with fail
    refine (impl_num_yes x _ h3 h4).mono ?_
    rintro e w' ⟨rfl, rfl⟩
    go_wp2_with fail
    refine (isShift_yes _ _ HA.out.1 HA.out.2).mono ?_
    rintro e w' ⟨rfl, rfl⟩
    go_wp2_with fail
    refine (isMode_no _ _ HB.out).mono ?_
    rintro e w' ⟨rfl, rfl⟩
    go_wp2_with fail
    go_ret2
    exact ⟨rfl, rfl⟩
  · have HA := hid ha
    clear ha h
    go_enter Try.func21, Try.ntmps21
    go_wp2_with fail
    refine (impl_num_yes x _ h3 h4).mono ?_
    rintro e w' ⟨rfl, rfl⟩
    go_wp2_with fail
    refine (isShift_no _ _ HA.out).mono ?_
    rintro e w' ⟨rfl, rfl⟩
    go_wp2_with fail
    go_ret2
    exact ⟨rfl, rfl⟩

end Go.Proofs.Ytedhclicjkjlfaa
