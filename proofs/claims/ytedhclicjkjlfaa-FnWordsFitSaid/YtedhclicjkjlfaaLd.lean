
import Derived.Test.YtedhclicjkjlfaaOa
import Derived.Test.YtedhclicjkjlfaaSu
namespace Go.Proofs.Ytedhclicjkjlfaa
open Go.RowKit BitX

set_option maxHeartbeats 400000 in
theorem spec_FitNumber_yes (b : Nat) (x : Int) (wr : Bool) (w : World) (h1 : 2 ≤ b) (h2 : b ≤ 16) (h3 : -1000000000000 ≤ x) (h4 : x ≤ 1000000000000) :
    Calls Try.prog 8 #[.agg #[.int .i64 (b : Int), .bool wr], .int .i64 x] w fun e w' => e = .returned (.tuple #[.int .i64 (fitI b wr x), .bool true]) ∧ Below w.heap.size w w' := by
  go_enter Try.func8, Try.ntmps8
  go_wp2_with fail
  refine (wdGood_yes _ _ _ (by omega) (by omega)).mono ?_
  rintro e w1 ⟨rfl, B1⟩
  obtain ⟨c1, d1⟩ := box2_cells B1
  go_wp2_with fail
  refine (spec_num_yes x _ h3 h4).mono ?_
  rintro e w' ⟨rfl, rfl⟩
  go_wp2_with fail
  refine (wdFit_any b wr x _ (by omega) h2).mono ?_
  rintro e w2 ⟨rfl, hb⟩
  have B2 := bel_step B1 hb
  go_wp2_with fail
  go_ret2
  exact ⟨rfl, bel_step (bel_alloc _ _) B2⟩

set_option maxHeartbeats 400000 in
theorem spec_FitNumber_bad (b x : Int) (wr : Bool) (w : World) (h : ¬ (2 ≤ b ∧ b ≤ 16)) :
    Calls Try.prog 8 #[.agg #[.int .i64 b, .bool wr], .int .i64 x] w fun e w' => e = .returned (.tuple #[.int .i64 0, .bool false]) ∧ Below w.heap.size w w' := by
  have H := hid h
  clear h
  go_enter Try.func8, Try.ntmps8
  go_wp2_with fail
  refine (wdGood_no _ _ _ H.out).mono ?_
  rintro e w1 ⟨rfl, B1⟩
  go_wp2_with fail
  go_ret2
  exact ⟨rfl, bel_step (bel_alloc _ _) B1⟩

set_option maxHeartbeats 400000 in
theorem spec_FitNumber_no (b : Nat) (x : Int) (wr : Bool) (w : World) (h1 : 2 ≤ b) (h2 : b ≤ 16) (h : ¬ (-1000000000000 ≤ x ∧ x ≤ 1000000000000)) :
    Calls Try.prog 8 #[.agg #[.int .i64 (b : Int), .bool wr], .int .i64 x] w fun e w' => e = .returned (.tuple #[.int .i64 0, .bool false]) ∧ Below w.heap.size w w' := by
  have H := hid h
  clear h
  go_enter Try.func8, Try.ntmps8
  go_wp2_with fail
  refine (wdGood_yes _ _ _ (by omega) (by omega)).mono ?_
  rintro e w1 ⟨rfl, B1⟩
  obtain ⟨c1, d1⟩ := box2_cells B1
  go_wp2_with fail
  refine (spec_num_no x _ H.out).mono ?_
  rintro e w' ⟨rfl, rfl⟩
  go_wp2_with fail
  go_ret2
  exact ⟨rfl, bel_step (bel_alloc _ _) B1⟩

set_option maxHeartbeats 400000 in
theorem impl_FitNumber_yes (b : Nat) (x : Int) (wr : Bool) (w : World) (h1 : 2 ≤ b) (h2 : b ≤ 16) (h3 : -1000000000000 ≤ x) (h4 : x ≤ 1000000000000) :
    Calls Try.prog 7 #[.agg #[.int .i64 (b : Int), .bool wr], .int .i64 x] w fun e w' => e = .returned (.tuple #[.int .i64 (fitI b wr x), .bool true]) ∧ Below w.heap.size w w' := by
  go_enter Try.func7, Try.ntmps7
  go_wp2_with fail
  refine (impl_IsWord_yes _ _ _ (by omega) (by omega)).mono ?_
  rintro e w1 ⟨rfl, B1⟩
  obtain ⟨c1, d1⟩ := box2_cells B1
  go_wp2_with fail
  refine (impl_num_yes x _ h3 h4).mono ?_
  rintro e w' ⟨rfl, rfl⟩
  go_wp2_with fail
  refine (fit_any b wr x _ (by omega) h2 (by omega) (by omega)).mono ?_
  rintro e w2 ⟨rfl, hb⟩
  have B2 := bel_step B1 hb
  go_wp2_with fail
  go_ret2
  exact ⟨rfl, bel_step (bel_alloc _ _) B2⟩

set_option maxHeartbeats 400000 in
theorem impl_FitNumber_bad (b x : Int) (wr : Bool) (w : World) (h : ¬ (2 ≤ b ∧ b ≤ 16)) :
    Calls Try.prog 7 #[.agg #[.int .i64 b, .bool wr], .int .i64 x] w fun e w' => e = .returned (.tuple #[.int .i64 0, .bool false]) ∧ Below w.heap.size w w' := by
  have H := hid h
  clear h
  go_enter Try.func7, Try.ntmps7
  go_wp2_with fail
  refine (impl_IsWord_no _ _ _ H.out).mono ?_
  rintro e w1 ⟨rfl, B1⟩
  go_wp2_with fail
  go_ret2
  exact ⟨rfl, bel_step (bel_alloc _ _) B1⟩

set_option maxHeartbeats 400000 in
theorem impl_FitNumber_no (b : Nat) (x : Int) (wr : Bool) (w : World) (h1 : 2 ≤ b) (h2 : b ≤ 16) (h : ¬ (-1000000000000 ≤ x ∧ x ≤ 1000000000000)) :
    Calls Try.prog 7 #[.agg #[.int .i64 (b : Int), .bool wr], .int .i64 x] w fun e w' => e = .returned (.tuple #[.int .i64 0, .bool false]) ∧ Below w.heap.size w w' := by
  have H := hid h
  clear h
  go_enter Try.func7, Try.ntmps7
  go_wp2_with fail
  refine (impl_IsWord_yes _ _ _ (by omega) (by omega)).mono ?_
  rintro e w1 ⟨rfl, B1⟩
  obtain ⟨c1, d1⟩ := box2_cells B1
  go_wp2_with fail
  refine (impl_num_no x _ H.out).mono ?_
  rintro e w' ⟨rfl, rfl⟩
  go_wp2_with fail
  go_ret2
  exact ⟨rfl, bel_step (bel_alloc _ _) B1⟩

end Go.Proofs.Ytedhclicjkjlfaa
