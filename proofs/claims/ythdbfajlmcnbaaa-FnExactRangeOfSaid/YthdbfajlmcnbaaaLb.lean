import Derived.Test.YthdbfajlmcnbaaaLa
namespace Go.Proofs.Ythdbfajlmcnbaaa
open Go.RowKit BitX

set_option maxHeartbeats 400000 in
theorem spec_RangeOf_yes (b : Nat) (wr : Bool) (w : World) (h1 : 2 ≤ b) (h2 : b ≤ 16) :
    Calls Try.prog 13 #[.agg #[.int .i64 (b : Int), .bool wr]] w fun e w' => e = .returned (.tuple #[.int .i64 (-(2 : Int) ^ (b - 1)), .int .i64 (2 ^ (b - 1) - 1), .bool true]) ∧ Below w.heap.size w w' := by
  go_enter Try.func13, Try.ntmps13
  go_wp2_with fail
  refine (wdGood_yes _ _ _ (by omega) (by omega)).mono ?_
  rintro e w1 ⟨rfl, B1⟩
  obtain ⟨c0, c1⟩ := box2_cells B1
  go_wp2_with fail
  go_region_with (first | (go_at_call 26; refine (wdLow_any b wr _ (by omega) h2).mono ?_; rintro e w2 ⟨rfl, B2⟩; have B3 := bel_step B1.drew B2; obtain ⟨d0, d1⟩ := box2_cells B3) | (go_at_call 27; refine (wdHigh_any b wr _ (by omega) h2).mono ?_; rintro e w4 ⟨rfl, B4⟩; have B5 := bel_step B3 B4))
  all_goals go_wp2
  all_goals go_ret3
  all_goals exact ⟨rfl, bel_step (bel_alloc _ _) B5⟩
set_option maxHeartbeats 400000 in
theorem spec_RangeOf_no (b : Int) (wr : Bool) (w : World) (h : ¬ (2 ≤ b ∧ b ≤ 16)) :
    Calls Try.prog 13 #[.agg #[.int .i64 b, .bool wr]] w fun e w' => e = .returned (.tuple #[.int .i64 0, .int .i64 0, .bool false]) ∧ Below w.heap.size w w' := by
  have H := hid h
  clear h
  go_enter Try.func13, Try.ntmps13
  go_wp2_with fail
  refine (wdGood_no _ _ _ H.out).mono ?_
  rintro e w1 ⟨rfl, B1⟩
  go_wp2
  go_ret3
  exact ⟨rfl, bel_step (bel_alloc _ _) B1⟩

set_option maxHeartbeats 400000 in
theorem impl_RangeOf_yes (b : Nat) (wr : Bool) (w : World) (h1 : 2 ≤ b) (h2 : b ≤ 16) :
    Calls Try.prog 14 #[.agg #[.int .i64 (b : Int), .bool wr]] w fun e w' => e = .returned (.tuple #[.int .i64 (-(2 : Int) ^ (b - 1)), .int .i64 (2 ^ (b - 1) - 1), .bool true]) ∧ Below w.heap.size w w' := by
  go_enter Try.func14, Try.ntmps14
  go_wp2_with fail
  refine (impl_IsWord_yes _ _ _ (by omega) (by omega)).mono ?_
  rintro e w1 ⟨rfl, B1⟩
  obtain ⟨c0, c1⟩ := box2_cells B1
  go_wp2_with fail
  go_region_with (first | (go_at_call 28; refine (leastOf_any b wr _ (by omega) h2).mono ?_; rintro e w2 ⟨rfl, B2⟩; have B3 := bel_step B1.drew B2; obtain ⟨d0, d1⟩ := box2_cells B3) | (go_at_call 29; refine (greatestOf_any b wr _ (by omega) h2).mono ?_; rintro e w4 ⟨rfl, B4⟩; have B5 := bel_step B3 B4))
  all_goals go_wp2
  all_goals go_ret3
  all_goals exact ⟨rfl, bel_step (bel_alloc _ _) B5⟩
set_option maxHeartbeats 400000 in
theorem impl_RangeOf_no (b : Int) (wr : Bool) (w : World) (h : ¬ (2 ≤ b ∧ b ≤ 16)) :
    Calls Try.prog 14 #[.agg #[.int .i64 b, .bool wr]] w fun e w' => e = .returned (.tuple #[.int .i64 0, .int .i64 0, .bool false]) ∧ Below w.heap.size w w' := by
  have H := hid h
  clear h
  go_enter Try.func14, Try.ntmps14
  go_wp2_with fail
  refine (impl_IsWord_no _ _ _ H.out).mono ?_
  rintro e w1 ⟨rfl, B1⟩
  go_wp2
  go_ret3
  exact ⟨rfl, bel_step (bel_alloc _ _) B1⟩

set_option maxHeartbeats 400000 in
theorem walk_FnExactRangeOf (w : World) (b : Int) (wr : Bool) (_ : (Lit.int .i64 b).wf = true) :
    Calls Try.prog 4 #[.agg #[.int .i64 b, .bool wr]] w fun e w' => e = .returned (.bool true) ∧ Below w.heap.size w w' := by
  by_cases h : 2 ≤ b ∧ b ≤ 16
  · obtain ⟨n, rfl⟩ := Int.eq_ofNat_of_zero_le (show 0 ≤ b by omega)
    have H := hid h
    clear h
    go_enter Try.func4, Try.ntmps4
    go_wp2_with fail
    refine (toWord_any _ _ _).mono ?_
    rintro e w1 ⟨rfl, B1⟩
    go_wp2_with fail
    refine (spec_RangeOf_yes _ _ _ (by have := H.out; omega) (by have := H.out; omega)).mono ?_
    rintro e w2 ⟨rfl, hb⟩
    have B2 := bel_step B1 hb
    obtain ⟨c0, c1⟩ := box2_cells B2
    go_wp2_with fail
    refine (toWord_any _ _ _).mono ?_
    rintro e w3 ⟨rfl, hb⟩
    have B3 := bel_step B2 hb
    go_wp2_with fail
    refine (impl_RangeOf_yes _ _ _ (by have := H.out; omega) (by have := H.out; omega)).mono ?_
    rintro e w4 ⟨rfl, hb⟩
    have B4 := bel_step B3 hb
    go_wp2_with fail
    go_ret
    exact ⟨rfl, bel_step (bel_alloc _ _) B4⟩
  · have H := hid h
    clear h
    go_enter Try.func4, Try.ntmps4
    go_wp2_with fail
    refine (toWord_any _ _ _).mono ?_
    rintro e w1 ⟨rfl, B1⟩
    go_wp2_with fail
    refine (spec_RangeOf_no _ _ _ H.out).mono ?_
    rintro e w2 ⟨rfl, hb⟩
    have B2 := bel_step B1 hb
    obtain ⟨c0, c1⟩ := box2_cells B2
    go_wp2_with fail
    refine (toWord_any _ _ _).mono ?_
    rintro e w3 ⟨rfl, hb⟩
    have B3 := bel_step B2 hb
    go_wp2_with fail
    refine (impl_RangeOf_no _ _ _ H.out).mono ?_
    rintro e w4 ⟨rfl, hb⟩
    have B4 := bel_step B3 hb
    go_wp2_with fail
    go_ret
    exact ⟨rfl, bel_step (bel_alloc _ _) B4⟩
end Go.Proofs.Ythdbfajlmcnbaaa
