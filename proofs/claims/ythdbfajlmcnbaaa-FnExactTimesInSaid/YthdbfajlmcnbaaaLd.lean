import Derived.Test.YthdbfajlmcnbaaaLc
import Derived.Test.YthdbfajlmcnbaaaSu
namespace Go.Proofs.Ythdbfajlmcnbaaa
open Go.RowKit BitX

set_option maxHeartbeats 400000 in
theorem spec_num_yes (x : Int) (w : World) (h3 : -1000000000000 ≤ x) (h4 : x ≤ 1000000000000) :
    Calls Try.prog 30 #[.int .i64 x] w fun e w' => e = .returned (.bool true) ∧ w = w' := by
  go_enter Try.func30, Try.ntmps30
  go_wp2_with fail
  refine (l1In_yes _ _ _ _ (by omega) (by omega)).mono ?_
  rintro e w' ⟨rfl, rfl⟩
  go_wp2_with fail
  go_ret
  exact ⟨rfl, rfl⟩

set_option maxHeartbeats 400000 in
theorem spec_num_no (x : Int) (w : World) (h : ¬ (-1000000000000 ≤ x ∧ x ≤ 1000000000000)) :
    Calls Try.prog 30 #[.int .i64 x] w fun e w' => e = .returned (.bool false) ∧ w = w' := by
  have H := hid h
  clear h
  go_enter Try.func30, Try.ntmps30
  go_wp2_with fail
  refine (l1In_no _ _ _ _ H.out).mono ?_
  rintro e w' ⟨rfl, rfl⟩
  go_wp2_with fail
  go_ret
  exact ⟨rfl, rfl⟩

set_option maxHeartbeats 400000 in
theorem impl_num_yes (x : Int) (w : World) (h3 : -1000000000000 ≤ x) (h4 : x ≤ 1000000000000) :
    Calls Try.prog 32 #[.int .i64 x] w fun e w' => e = .returned (.bool true) ∧ w = w' := by
  go_enter Try.func32, Try.ntmps32
  go_wp2
  go_ret
  exact ⟨rfl, rfl⟩

set_option maxHeartbeats 400000 in
theorem impl_num_no (x : Int) (w : World) (h : ¬ (-1000000000000 ≤ x ∧ x ≤ 1000000000000)) :
    Calls Try.prog 32 #[.int .i64 x] w fun e w' => e = .returned (.bool false) ∧ w = w' := by
  by_cases h1 : x < -1000000000000
  · clear h
    go_enter Try.func32, Try.ntmps32
    go_wp2
    go_ret
    exact ⟨rfl, rfl⟩
  · have h2 : -1000000000000 ≤ x := by omega
    have h3 : 1000000000000 < x := by omega
    clear h h1
    go_enter Try.func32, Try.ntmps32
    go_wp2
    go_ret
    exact ⟨ret_b (decide_eq_false (by omega)), rfl⟩

set_option maxHeartbeats 400000 in
theorem spec_FitNumber_yes (b : Nat) (x : Int) (wr : Bool) (w : World) (h1 : 2 ≤ b) (h2 : b ≤ 16) (h3 : -1000000000000 ≤ x) (h4 : x ≤ 1000000000000) :
    Calls Try.prog 15 #[.agg #[.int .i64 (b : Int), .bool wr], .int .i64 x] w fun e w' => e = .returned (.tuple #[.int .i64 (fitI b wr x), .bool true]) ∧ Below w.heap.size w w' := by
  go_enter Try.func15, Try.ntmps15
  go_wp2_with fail
  refine (wdGood_yes _ _ _ (by omega) (by omega)).mono ?_
  rintro e w1 ⟨rfl, B1⟩
  obtain ⟨c1, d1⟩ := box2_cells B1
  go_wp2_with fail
  refine (spec_num_yes x _ h3 h4).mono ?_
  rintro e w' ⟨rfl, rfl⟩
  go_wp2_with fail
  refine (wdFit_any b wr x _ (by omega) h2).mono ?_
  rintro e w2 ⟨rfl, hb⟩
  have B2 := bel_step B1 hb
  go_wp2_with fail
  go_ret2
  exact ⟨rfl, bel_step (bel_alloc _ _) B2⟩

set_option maxHeartbeats 400000 in
theorem spec_FitNumber_bad (b x : Int) (wr : Bool) (w : World) (h : ¬ (2 ≤ b ∧ b ≤ 16)) :
    Calls Try.prog 15 #[.agg #[.int .i64 b, .bool wr], .int .i64 x] w fun e w' => e = .returned (.tuple #[.int .i64 0, .bool false]) ∧ Below w.heap.size w w' := by
  have H := hid h
  clear h
  go_enter Try.func15, Try.ntmps15
  go_wp2_with fail
  refine (wdGood_no _ _ _ H.out).mono ?_
  rintro e w1 ⟨rfl, B1⟩
  go_wp2_with fail
  go_ret2
  exact ⟨rfl, bel_step (bel_alloc _ _) B1⟩

set_option maxHeartbeats 400000 in
theorem spec_FitNumber_no (b : Nat) (x : Int) (wr : Bool) (w : World) (h1 : 2 ≤ b) (h2 : b ≤ 16) (h : ¬ (-1000000000000 ≤ x ∧ x ≤ 1000000000000)) :
    Calls Try.prog 15 #[.agg #[.int .i64 (b : Int), .bool wr], .int .i64 x] w fun e w' => e = .returned (.tuple #[.int .i64 0, .bool false]) ∧ Below w.heap.size w w' := by
  have H := hid h
  clear h
  go_enter Try.func15, Try.ntmps15
  go_wp2_with fail
  refine (wdGood_yes _ _ _ (by omega) (by omega)).mono ?_
  rintro e w1 ⟨rfl, B1⟩
  obtain ⟨c1, d1⟩ := box2_cells B1
  go_wp2_with fail
  refine (spec_num_no x _ H.out).mono ?_
  rintro e w' ⟨rfl, rfl⟩
  go_wp2_with fail
  go_ret2
  exact ⟨rfl, bel_step (bel_alloc _ _) B1⟩

set_option maxHeartbeats 400000 in
theorem impl_FitNumber_yes (b : Nat) (x : Int) (wr : Bool) (w : World) (h1 : 2 ≤ b) (h2 : b ≤ 16) (h3 : -1000000000000 ≤ x) (h4 : x ≤ 1000000000000) :
    Calls Try.prog 16 #[.agg #[.int .i64 (b : Int), .bool wr], .int .i64 x] w fun e w' => e = .returned (.tuple #[.int .i64 (fitI b wr x), .bool true]) ∧ Below w.heap.size w w' := by
  go_enter Try.func16, Try.ntmps16
  go_wp2_with fail
  refine (impl_IsWord_yes _ _ _ (by omega) (by omega)).mono ?_
  rintro e w1 ⟨rfl, B1⟩
  obtain ⟨c1, d1⟩ := box2_cells B1
  go_wp2_with fail
  refine (impl_num_yes x _ h3 h4).mono ?_
  rintro e w' ⟨rfl, rfl⟩
  go_wp2_with fail
  refine (fit_any b wr x _ (by omega) h2 (by omega) (by omega)).mono ?_
  rintro e w2 ⟨rfl, hb⟩
  have B2 := bel_step B1 hb
  go_wp2_with fail
  go_ret2
  exact ⟨rfl, bel_step (bel_alloc _ _) B2⟩

set_option maxHeartbeats 400000 in
theorem impl_FitNumber_bad (b x : Int) (wr : Bool) (w : World) (h : ¬ (2 ≤ b ∧ b ≤ 16)) :
    Calls Try.prog 16 #[.agg #[.int .i64 b, .bool wr], .int .i64 x] w fun e w' => e = .returned (.tuple #[.int .i64 0, .bool false]) ∧ Below w.heap.size w w' := by
  have H := hid h
  clear h
  go_enter Try.func16, Try.ntmps16
  go_wp2_with fail
  refine (impl_IsWord_no _ _ _ H.out).mono ?_
  rintro e w1 ⟨rfl, B1⟩
  go_wp2_with fail
  go_ret2
  exact ⟨rfl, bel_step (bel_alloc _ _) B1⟩

set_option maxHeartbeats 400000 in
theorem impl_FitNumber_no (b : Nat) (x : Int) (wr : Bool) (w : World) (h1 : 2 ≤ b) (h2 : b ≤ 16) (h : ¬ (-1000000000000 ≤ x ∧ x ≤ 1000000000000)) :
    Calls Try.prog 16 #[.agg #[.int .i64 (b : Int), .bool wr], .int .i64 x] w fun e w' => e = .returned (.tuple #[.int .i64 0, .bool false]) ∧ Below w.heap.size w w' := by
  have H := hid h
  clear h
  go_enter Try.func16, Try.ntmps16
  go_wp2_with fail
  refine (impl_IsWord_yes _ _ _ (by omega) (by omega)).mono ?_
  rintro e w1 ⟨rfl, B1⟩
  obtain ⟨c1, d1⟩ := box2_cells B1
  go_wp2_with fail
  refine (impl_num_no x _ H.out).mono ?_
  rintro e w' ⟨rfl, rfl⟩
  go_wp2_with fail
  go_ret2
  exact ⟨rfl, bel_step (bel_alloc _ _) B1⟩

set_option maxHeartbeats 400000 in
theorem walk_FnExactFitNumber (w : World) (b : Int) (wr : Bool) (_ : (Lit.int .i64 b).wf = true) (x : Int) (_ : (Lit.int .i64 x).wf = true) :
    Calls Try.prog 5 #[.agg #[.int .i64 b, .bool wr], .int .i64 x] w fun e w' => e = .returned (.bool true) ∧ Below w.heap.size w w' := by
  by_cases h : 2 ≤ b ∧ b ≤ 16
  · obtain ⟨n, rfl⟩ := Int.eq_ofNat_of_zero_le (show 0 ≤ b by omega)
    have h1 : 2 ≤ n := by omega
    have h2 : n ≤ 16 := by omega
    clear h
    by_cases hx : -1000000000000 ≤ x ∧ x ≤ 1000000000000
    · obtain ⟨h3, h4⟩ := hx
      go_enter Try.func5, Try.ntmps5
      go_wp2_with fail
      refine (toWord_any _ _ _).mono ?_
      rintro e w1 ⟨rfl, B1⟩
      go_wp2_with fail
      refine (spec_FitNumber_yes n x wr _ h1 h2 h3 h4).mono ?_
      rintro e w2 ⟨rfl, hb⟩
      have B2 := bel_step B1 hb
      obtain ⟨c2, d2⟩ := box2_cells B2
      go_wp2_with fail
      refine (toWord_any _ _ _).mono ?_
      rintro e w3 ⟨rfl, hb⟩
      have B3 := bel_step B2 hb
      go_wp2_with fail
      refine (impl_FitNumber_yes n x wr _ h1 h2 h3 h4).mono ?_
      rintro e w4 ⟨rfl, hb⟩
      have B4 := bel_step B3 hb
      go_wp2_with fail
      go_ret
      exact ⟨rfl, bel_step (bel_alloc _ _) B4⟩
    · have HX := hid hx
      clear hx
      go_enter Try.func5, Try.ntmps5
      go_wp2_with fail
      refine (toWord_any _ _ _).mono ?_
      rintro e w1 ⟨rfl, B1⟩
      go_wp2_with fail
      refine (spec_FitNumber_no n x wr _ h1 h2 HX.out).mono ?_
      rintro e w2 ⟨rfl, hb⟩
      have B2 := bel_step B1 hb
      obtain ⟨c2, d2⟩ := box2_cells B2
      go_wp2_with fail
      refine (toWord_any _ _ _).mono ?_
      rintro e w3 ⟨rfl, hb⟩
      have B3 := bel_step B2 hb
      go_wp2_with fail
      refine (impl_FitNumber_no n x wr _ h1 h2 HX.out).mono ?_
      rintro e w4 ⟨rfl, hb⟩
      have B4 := bel_step B3 hb
      go_wp2_with fail
      go_ret
      exact ⟨rfl, bel_step (bel_alloc _ _) B4⟩
  · have H := hid h
    clear h
    go_enter Try.func5, Try.ntmps5
    go_wp2_with fail
    refine (toWord_any _ _ _).mono ?_
    rintro e w1 ⟨rfl, B1⟩
    go_wp2_with fail
    refine (spec_FitNumber_bad b x wr _ H.out).mono ?_
    rintro e w2 ⟨rfl, hb⟩
    have B2 := bel_step B1 hb
    obtain ⟨c2, d2⟩ := box2_cells B2
    go_wp2_with fail
    refine (toWord_any _ _ _).mono ?_
    rintro e w3 ⟨rfl, hb⟩
    have B3 := bel_step B2 hb
    go_wp2_with fail
    refine (impl_FitNumber_bad b x wr _ H.out).mono ?_
    rintro e w4 ⟨rfl, hb⟩
    have B4 := bel_step B3 hb
    go_wp2_with fail
    go_ret
    exact ⟨rfl, bel_step (bel_alloc _ _) B4⟩
end Go.Proofs.Ythdbfajlmcnbaaa
